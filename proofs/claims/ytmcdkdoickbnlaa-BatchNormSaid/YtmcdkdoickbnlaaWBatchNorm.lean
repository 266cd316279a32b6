/-
  The walk of BatchNorm: what operations come to has each key once, rising, with the last that was said of it; again it stays.
-/
import Derived.Test.YtmcdkdoickbnlaaBatchAwake
namespace Go.Proofs.Ytmcdkdoickbnlaa
open Go.RowKit

/-- 'last' is the place of the last of the first 'k' that has the key, or -1. -/
def LastAt (l : List Ope) (q : List UInt8) (k : Nat) (last : Int) : Prop :=
  (last = -1 ∧ ∀ j, j < k → (l.getD j Ope.none_).key ≠ q) ∨ ∃ m : Nat, last = (m : Int) ∧ m < k ∧ (l.getD m Ope.none_).key = q ∧ ∀ j, m < j → j < k → (l.getD j Ope.none_).key ≠ q

theorem LastAt.start (l : List Ope) (q : List UInt8) : LastAt l q 0 (-1) := .inl ⟨rfl, fun j h => by omega⟩

theorem LastAt.hit {l : List Ope} {q : List UInt8} {k : Nat} (h : (l.getD k Ope.none_).key = q) : LastAt l q (k + 1) (k : Int) :=
  .inr ⟨k, rfl, by omega, h, fun j h1 h2 => by omega⟩

theorem LastAt.miss {l : List Ope} {q : List UInt8} {k : Nat} {last : Int} (hl : LastAt l q k last) (h : (l.getD k Ope.none_).key ≠ q) : LastAt l q (k + 1) last := by
  rcases hl with ⟨h1, h2⟩ | ⟨m, h1, h2, h3, h4⟩
  · refine .inl ⟨h1, fun j hj => ?_⟩
    rcases Nat.lt_or_ge j k with h5 | h5
    · exact h2 j h5
    · obtain rfl : j = k := by omega
      exact h
  · refine .inr ⟨m, h1, by omega, h3, fun j hj1 hj2 => ?_⟩
    rcases Nat.lt_or_ge j k with h5 | h5
    · exact h4 j hj1 h5
    · obtain rfl : j = k := by omega
      exact h

theorem look_of_take {l : List Ope} {q : List UInt8} : ∀ {m : Nat}, m < l.length → (l.getD m Ope.none_).key = q → (∀ j, m < j → j < l.length → (l.getD j Ope.none_).key ≠ q) → lastK l q = some (l.getD m Ope.none_) := by
  intro m hm hk hl
  unfold lastK
  have e : l = l.take m ++ l.getD m Ope.none_ :: l.drop (m + 1) := by
    rw [← drop_op hm, List.take_append_drop]
  have hn : look (l.drop (m + 1)).reverse q = none := by
    rw [look_none]
    intro o ho
    rw [List.mem_reverse] at ho
    obtain ⟨j, hj⟩ := List.getElem?_of_mem ho
    rw [List.getElem?_drop] at hj
    have hj2 := (List.getElem?_eq_some_iff.1 hj).1
    have := hl (m + 1 + j) (by omega) hj2
    rw [opGet hj2] at hj
    cases hj
    exact this
  conv => lhs; rw [e]
  rw [List.reverse_append, List.reverse_cons, List.append_assoc, look_append, hn, look_append, look_cons, if_pos hk]
  rfl

/-- At the end it is the place of what is told. -/
theorem LastAt.told {l : List Ope} {i : Nat} {last : Int} (hi : i < (normL l).length) (h : LastAt l ((normL l).getD i Ope.none_).key l.length last) : ∃ m : Nat, last = (m : Int) ∧ m < l.length ∧ l.getD m Ope.none_ = (normL l).getD i Ope.none_ := by
  generalize hN : (normL l).getD i Ope.none_ = o at h ⊢
  have hmem : o ∈ normL l := by rw [← hN]; exact List.mem_of_getElem? (opGet hi)
  have hl : look (normL l) o.key = some o := by
    have ha : OneEach (normL l) := (normL_rises l).imp fun h => cmpL_ne h
    exact ha.look_mem hmem
  rw [normL_look] at hl
  rcases h with ⟨_, h2⟩ | ⟨m, h1, h2, h3, h4⟩
  · exfalso
    unfold lastK at hl
    obtain ⟨h5, h6⟩ := look_some hl
    rw [List.mem_reverse] at h5
    obtain ⟨j, hj⟩ := List.getElem?_of_mem h5
    have hj2 := (List.getElem?_eq_some_iff.1 hj).1
    rw [opGet hj2] at hj
    have := h2 j hj2
    rw [Option.some.inj hj] at this
    exact this rfl
  · refine ⟨m, h1, h2, ?_⟩
    rw [look_of_take h2 h3 h4] at hl
    exact Option.some.inj hl

theorem rises_at {l : List Ope} (h : Rises l) {i : Nat} (hi : i + 1 < l.length) : cmpL (l.getD i Ope.none_).key (l.getD (i + 1) Ope.none_).key = -1 := by
  have := List.pairwise_iff_getElem.1 h i (i + 1) (by omega) hi (by omega)
  simpa [List.getD, hi, show i < l.length by omega] using this

/-- Has one of the first 'i' the key? -/
def anyK (l : List Ope) (q : List UInt8) (i : Nat) : Bool := (l.take i).any fun o => decide (o.key = q)

theorem anyK_more {l : List Ope} {q : List UInt8} {i : Nat} (hi : i < l.length) : anyK l q (i + 1) = (anyK l q i || decide ((l.getD i Ope.none_).key = q)) := by
  unfold anyK
  rw [List.take_succ_eq_append_getElem hi, List.any_append]
  simp [List.getD, hi]

theorem anyK_all {l : List Ope} {k : Nat} (hk : k < l.length) : anyK (normL l) (l.getD k Ope.none_).key (normL l).length = true := by
  unfold anyK
  rw [List.take_length]
  cases hl : look (normL l) (l.getD k Ope.none_).key with
  | none =>
    exfalso
    rw [normL_look] at hl
    unfold lastK at hl
    rw [look_none] at hl
    exact hl (l.getD k Ope.none_) (List.mem_reverse.2 (List.mem_of_getElem? (opGet hk))) rfl
  | some o =>
    obtain ⟨h1, h2⟩ := look_some hl
    exact List.any_eq_true.2 ⟨o, h1, decide_eq_true h2⟩

set_option maxRecDepth 100000 in
set_option maxHeartbeats 8000000 in
theorem batchNorm_walk (v : Value) (l : List Ope) (W : World) (hv : RdO W v l) :
    Calls Try.prog 5 #[v] W fun e W' => e = .returned (.bool true) ∧ Below W.heap.size W W' := by
  obtain ⟨a, cap, rfl, hc1, hc2⟩ := hv.form
  unfold maxLen at hc2
  have hg := great_any (.slice a l.length cap) l W hv
  cases hgr : greatL l with
  | true =>
    rw [hgr] at hg
    have HG := Lib.hid hg
    clear hg hgr hv
    go_enter Try.func5, Try.ntmps5
    go_wp2_with (first | (go_at_call 7; refine HG.out.mono ?_; rintro e w1 ⟨rfl, hb1⟩; have HB1 := Lib.hid hb1; clear hb1) | (go_at_call 8; refine (awake8_any _).mono ?_; rintro e w3 ⟨rfl, hb3⟩; have HB3 := Lib.hid (HB1.out.trans (hb3.mono HB1.out.size)); clear hb3))
    go_ret
    exact ⟨rfl, HB3.out⟩
  | false =>
    rw [hgr] at hg
    obtain ⟨hl60, _⟩ := greatL_false hgr
    have hnl := normL_len l
    have HG := Lib.hid hg
    have HV := Lib.hid hv
    have HTOLD := Lib.hid (fun i last => @LastAt.told l i last)
    have HRISE := Lib.hid (fun i => @rises_at (normL l) (normL_rises l) i)
    have HANY := Lib.hid (fun k => @anyK_all l k)
    have HNN := Lib.hid (normL_norm l)
    have HFN : Hid (∀ o ∈ normL l, o.fits) := Lib.hid fun o ho => hv.2 o (normL_mem ho)
    have hnorm := fun w (h : RdO w (.slice a l.length cap) l) => bnorm_any (.slice a l.length cap) l w h (by omega)
    generalize normL l = N at *
    have HNORM := Lib.hid hnorm
    clear hg hgr hv hnorm
    go_enter Try.func5, Try.ntmps5
    go_wp2_with (first | (go_at_call 7; refine HG.out.mono ?_; rintro e w1 ⟨rfl, hb1⟩; have HB1 := Lib.hid hb1; clear hb1) | (go_at_call 16; refine (HNORM.out _ (HV.out.below HB1.out (Nat.le_refl _))).mono ?_; rintro e w2 ⟨nv, rfl, ho2, hb2⟩; obtain ⟨na, ncap, rfl, hn1, hn2⟩ := ho2.form; have HO2 := Lib.hid (ho2.read HFN.out); have HB2 := Lib.hid (HB1.out.trans (hb2.mono HB1.out.size)); clear ho2 hb2))
    unfold maxLen at hn2
    have HV2 := Lib.hid (HV.out.below HB2.out (Nat.le_refl _))
    go_loopw [4] (fun i wr => ∃ k : Nat, k ≤ N.length ∧ i = .int .i64 k ∧ Below w2.heap.size w2 wr) (fun i _ => N.length - (intOf i).toNat)
    case atStart => exact ⟨0, Nat.zero_le _, rfl, Below.refl _ _⟩
    case round =>
      obtain ⟨i, hi, rfl, hb⟩ := hrel
      have HBI := Lib.hid hb
      clear hb
      by_cases hlt : i < N.length
      · obtain ⟨bn, on, rfl, hbn, hcn⟩ := HO2.out.at_ (by intro h; subst h; simp at hlt)
        obtain ⟨n0, n1, n2⟩ := hcn i hlt
        have HT := Lib.hid (fun last => HTOLD.out i last)
        have HNI : Hid (N.getD i Ope.none_ = N.getD i Ope.none_) := Lib.hid rfl
        obtain ⟨o, ho⟩ : ∃ o, o = N.getD i Ope.none_ := ⟨_, rfl⟩
        rw [← ho] at n0 n1 n2
        have HO := Lib.hid ho
        clear ho HNI
        have m0 := (HBI.out.cell (p := ⟨bn, on + i * 3, none⟩) hbn).trans n0
        have m1 := (HBI.out.cell (p := ⟨bn, on + i * 3 + 1, none⟩) hbn).trans n1
        have m2 := (HBI.out.cell (p := ⟨bn, on + i * 3 + 2, none⟩) hbn).trans n2
        obtain ⟨wa, hwa⟩ : ∃ wa, wa = wr := ⟨_, rfl⟩
        subst hwa
        go_wp2
        go_loopw [5, 6] (fun la kv w3 => ∃ (k : Nat) (last : Int), k ≤ l.length ∧ la = .int .i64 last ∧ kv = .int .i64 k ∧ Hid (LastAt l o.key k last) ∧ Below w2.heap.size w2 w3) (fun _ kv _ => l.length - (intOf kv).toNat)
        case atStart => exact ⟨0, -1, Nat.zero_le _, rfl, rfl, Lib.hid (LastAt.start _ _), HBI.out⟩
        case round =>
          obtain ⟨k, last, hk, rfl, rfl, HLA, hb3⟩ := hrel
          have HB3 := Lib.hid hb3
          clear hb3
          have r0 := (HB3.out.cell (p := ⟨bn, on + i * 3, none⟩) hbn).trans n0
          have r1 := (HB3.out.cell (p := ⟨bn, on + i * 3 + 1, none⟩) hbn).trans n1
          have r2 := (HB3.out.cell (p := ⟨bn, on + i * 3 + 2, none⟩) hbn).trans n2
          by_cases hkl : k < l.length
          · obtain ⟨b, off, rfl, hbw, hcl⟩ := HV2.out.at_ (by intro h; subst h; simp at hkl)
            obtain ⟨d0, d1, d2⟩ := hcl k hkl
            have e1 := (HB3.out.cell (p := ⟨b, off + k * 3 + 1, none⟩) hbw).trans d1
            have HM := Lib.hid (fun h => HLA.out.miss (k := k) h)
            have HH := Lib.hid (@LastAt.hit l o.key k)
            clear d0 d1 d2 hcl
            generalize l.getD k Ope.none_ = x at *
            by_cases hx : x.key = o.key
            · have hs := same_yes hx
              have HX := Lib.hid (HH.out hx)
              clear hx
              go_wp2
              go_quiet (fail)
              go_wp2
              refine ⟨⟨k + 1, (k : Int), by omega, rfl, by go_num, HX, below_drewN HB3.out _⟩, ?_⟩
              simp [intOf]; omega
            · have hs := same_no hx
              have HX := Lib.hid (HM.out hx)
              clear hx
              go_wp2
              go_quiet (fail)
              go_wp2
              refine ⟨⟨k + 1, last, by omega, rfl, by go_num, HX, below_drewN HB3.out _⟩, ?_⟩
              simp [intOf]; omega
          · obtain rfl : k = l.length := by omega
            obtain ⟨m, rfl, hm, hmo⟩ := HT.out _ hlt (by rw [← HO.out]; exact HLA.out)
            obtain ⟨b, off, rfl, hbw, hcl⟩ := HV2.out.at_ (by intro h; subst h; simp at hm)
            obtain ⟨d0, d1, d2⟩ := hcl m hm
            rw [hmo, ← HO.out] at d0 d1 d2
            have e0 := (HB3.out.cell (p := ⟨b, off + m * 3, none⟩) hbw).trans d0
            have e1 := (HB3.out.cell (p := ⟨b, off + m * 3 + 1, none⟩) hbw).trans d1
            have e2 := (HB3.out.cell (p := ⟨b, off + m * 3 + 2, none⟩) hbw).trans d2
            have hne : ∀ (w : World), (binOp .neq 45 (.agg #[.int .i64 o.k, .string o.u, .string o.v]) (.agg #[.int .i64 o.k, .string o.u, .string o.v])).run Try.prog w = .ok (.bool false) w := fun w => by
              have := neqO.1 o o w
              rw [(eqO_iff o o).2 rfl] at this
              exact this
            clear d0 d1 d2 hcl hmo
            by_cases hi0 : i = 0
            · have hpos : decide (0 < i) = false := decide_eq_false (by omega)
              have hneg : decide ((m : Int) < 0) = false := decide_eq_false (by omega)
              clear hi0
              go_wp2
              go_quiet (fail)
              go_wp2
              refine ⟨⟨i + 1, by omega, by go_num, below_drewN HB3.out _⟩, ?_⟩
              simp [intOf]; omega
            · obtain ⟨i', hii⟩ : ∃ i', i = i' + 1 := ⟨i - 1, by omega⟩
              obtain ⟨q0, q1, q2⟩ := hcn i' (by omega)
              have hrise := HRISE.out i' (by omega)
              rw [← hii, ← HO.out] at hrise
              have s1 := (HB3.out.cell (p := ⟨bn, on + i' * 3 + 1, none⟩) hbn).trans q1
              clear q0 q1 q2 hcn
              generalize N.getD i' Ope.none_ = y at *
              have hless := less_yes hrise
              have hge : ∀ w, (binOp .geq 9 (.string y.u) (.string o.u)).run Try.prog w = .ok (.bool false) w := fun w => by simp [binOp, Op.stringOp, hless]; try rfl
              have hpos : decide (0 < i) = true := decide_eq_true (by omega)
              have hneg : decide ((m : Int) < 0) = false := decide_eq_false (by omega)
              have hsub : IntKind.i64.wrap ((i : Int) - 1) = (i' : Int) := by rw [IntWalk.i64_in _ (by omega)]; omega
              have hb1 : (i' : Int) < (N.length : Int) := by omega
              have hb0 : (0 : Int) ≤ (i' : Int) := by omega
              clear hrise hi0 hii
              go_wp2
              go_quiet (fail)
              go_wp2
              refine ⟨⟨i + 1, by omega, by go_num, below_drewN HB3.out _⟩, ?_⟩
              simp [intOf]; omega
      · obtain rfl : i = N.length := by omega
        go_wp2
        go_loopw [7] (fun kv w3 => ∃ k : Nat, k ≤ l.length ∧ kv = .int .i64 k ∧ Below w2.heap.size w2 w3) (fun kv _ => l.length - (intOf kv).toNat)
        case atStart => exact ⟨0, Nat.zero_le _, rfl, HBI.out⟩
        case round =>
          obtain ⟨k, hk, rfl, hb3⟩ := hrel
          have HB3 := Lib.hid hb3
          clear hb3
          by_cases hkl : k < l.length
          · obtain ⟨b, off, rfl, hbw, hcl⟩ := HV2.out.at_ (by intro h; subst h; simp at hkl)
            obtain ⟨d0, d1, d2⟩ := hcl k hkl
            have HA := Lib.hid (HANY.out _ hkl)
            clear d0 d2 hcl
            generalize l.getD k Ope.none_ = x at *
            obtain ⟨wa, hwa⟩ : ∃ wa, wa = wr := ⟨_, rfl⟩
            subst hwa
            go_wp2
            go_loopw [8, 9] (fun fv iv w4 => ∃ i : Nat, i ≤ N.length ∧ fv = .bool (anyK N x.key i) ∧ iv = .int .i64 i ∧ Below w2.heap.size w2 w4) (fun _ iv _ => N.length - (intOf iv).toNat)
            case atStart => exact ⟨0, Nat.zero_le _, rfl, rfl, HB3.out⟩
            case round =>
              obtain ⟨i, hi, rfl, rfl, hb4⟩ := hrel
              have HB4 := Lib.hid hb4
              clear hb4
              have e1 := (HB4.out.cell (p := ⟨b, off + k * 3 + 1, none⟩) hbw).trans d1
              by_cases hil : i < N.length
              · obtain ⟨bn, on, rfl, hbn, hcn⟩ := HO2.out.at_ (by intro h; subst h; simp at hil)
                obtain ⟨n0, n1, n2⟩ := hcn i hil
                have m1 := (HB4.out.cell (p := ⟨bn, on + i * 3 + 1, none⟩) hbn).trans n1
                have HMO := Lib.hid (anyK_more (q := x.key) hil)
                clear n0 n1 n2 hcn
                generalize N.getD i Ope.none_ = y at *
                cases hf : anyK N x.key i with
                | true =>
                  rw [hf] at HMO
                  have HMT := Lib.hid (show anyK N x.key (i + 1) = true by rw [HMO.out]; rfl)
                  clear hf
                  go_wp2
                  go_quiet (fail)
                  go_wp2
                  refine ⟨⟨i + 1, by omega, by rw [HMT.out], by go_num, below_drewN HB4.out _⟩, ?_⟩
                  simp [intOf]; omega
                | false =>
                  rw [hf] at HMO
                  by_cases hx : y.key = x.key
                  · have hs := same_yes hx
                    have HMT := Lib.hid (show anyK N x.key (i + 1) = true by rw [HMO.out]; simp [hx])
                    clear hf hx
                    go_wp2
                    go_quiet (fail)
                    go_wp2
                    refine ⟨⟨i + 1, by omega, by rw [HMT.out], by go_num, below_drewN HB4.out _⟩, ?_⟩
                    simp [intOf]; omega
                  · have hs := same_no hx
                    have HMT := Lib.hid (show anyK N x.key (i + 1) = false by rw [HMO.out]; simp [hx])
                    clear hf hx
                    go_wp2
                    go_quiet (fail)
                    go_wp2
                    refine ⟨⟨i + 1, by omega, by rw [HMT.out], by go_num, below_drewN HB4.out _⟩, ?_⟩
                    simp [intOf]; omega
              · obtain rfl : i = N.length := by omega
                rw [HA.out]
                go_wp2
                refine ⟨⟨k + 1, by omega, by go_num, HB4.out⟩, ?_⟩
                simp [intOf]; omega
          · obtain rfl : k = l.length := by omega
            have hn2' := bnorm_any (.slice na N.length ncap) N wr (HO2.out.below HB3.out (Nat.le_refl _)) (by omega)
            rw [HNN.out] at hn2'
            have HN2 := Lib.hid hn2'
            clear hn2'
            go_wp2_with (first | (go_at_call 16; refine HN2.out.mono ?_; rintro e w5 ⟨v5, rfl, ho5, hb5⟩; have HO5 := Lib.hid (ho5.read HFN.out); have HB5 := Lib.hid hb5; clear ho5 hb5) | (go_at_call 15; refine (rsame_any _ _ N N _ HO5.out ((HO2.out.below HB3.out (Nat.le_refl _)).below HB5.out (Nat.le_refl _))).mono ?_; rintro e w6 ⟨rfl, hb6⟩; rw [sameL_refl]; have HB6 := Lib.hid (HB5.out.trans (hb6.mono HB5.out.size)); clear hb6) | (go_at_call 8; refine (awake8_any _).mono ?_; rintro e w7 ⟨rfl, hb7⟩; have HB7 := Lib.hid (HB6.out.trans (hb7.mono HB6.out.size)); clear hb7))
            go_ret
            exact ⟨rfl, HB2.out.trans ((HB3.out.trans (HB7.out.mono HB3.out.size)).mono HB2.out.size)⟩
end Go.Proofs.Ytmcdkdoickbnlaa
