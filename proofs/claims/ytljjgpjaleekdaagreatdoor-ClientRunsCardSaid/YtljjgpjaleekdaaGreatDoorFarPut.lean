/-
  An object is laid there: Put.
-/
import Derived.Test.YtljjgpjaleekdaaGreatDoorFarLib
namespace Go.Proofs.YtljjgpjaleekdaaGreatDoor
open Go.RowKit

theorem zero_obj (w : World) : (zeroValue 67).run Tryz.prog w = .ok (.agg #[.string ⟨#[]⟩]) w := by kernel_rfl

theorem name_key (s : ByteArray) (hs : s.size ≤ maxLen) : keyOf Tryz.prog 9 (.string s) = some (.string s.data.toList) := WideMaps.keyOf_string_mk Tryz.underlying9 hs

theorem om_look {w : World} {v : Value} {l : List (List UInt8 × List UInt8)} (h : Om w v l) (s : ByteArray) (hs : s.size ≤ maxLen) :
    (Instr.lookup 43 v (.string s) true).run Tryz.prog w = .ok (.tuple #[.agg #[.string (strB ((nfind l s.data.toList).getD []))], .bool (nfind l s.data.toList).isSome]) w := by
  rcases h with ⟨rfl, rfl⟩ | ⟨b, rfl, hm⟩
  · have := Maps.look_nil (P := Tryz.prog) (w := w) (t := 43) (k := 9) (e := 67) true (Maps.string_keyed Tryz.underlying9) Tryz.underlying43 (zero_obj w) (name_key s hs)
    exact this
  · obtain ⟨u, ps, hrun, hv⟩ := hm.look_ok (t := 43) (Maps.string_keyed Tryz.underlying9) Tryz.underlying43 (zero_obj w) (objElem_mk (s := ⟨#[]⟩) (by unfold maxLen; decide)) (name_key s hs)
    rw [hrun, mapN_has]
    rw [mapN_at] at hv
    cases hf : nfind l s.data.toList with
    | none =>
      rw [hf] at hv
      rw [(objElem_inv hv).1]
      rfl
    | some b =>
      rw [hf] at hv
      rw [(objElem_inv (b := b) hv).1]
      rfl

theorem om_look_some {w : World} {v : Value} {l : List (List UInt8 × List UInt8)} (h : Om w v l) (s : ByteArray) (hs : s.size ≤ maxLen) {b : List UInt8} (hf : nfind l s.data.toList = some b) :
    (Instr.lookup 43 v (.string s) true).run Tryz.prog w = .ok (.tuple #[.agg #[.string (strB b)], .bool true]) w := by
  have := om_look h s hs
  rw [hf] at this
  exact this

theorem om_look_none {w : World} {v : Value} {l : List (List UInt8 × List UInt8)} (h : Om w v l) (s : ByteArray) (hs : s.size ≤ maxLen) (hf : nfind l s.data.toList = none) :
    (Instr.lookup 43 v (.string s) true).run Tryz.prog w = .ok (.tuple #[.agg #[.string ⟨#[]⟩], .bool false]) w := by
  have := om_look h s hs
  rw [hf] at this
  exact this

theorem om_look1 {w : World} {v : Value} {l : List (List UInt8 × List UInt8)} (h : Om w v l) (s : ByteArray) (hs : s.size ≤ maxLen) {b : List UInt8} (hf : nfind l s.data.toList = some b) :
    (Instr.lookup 43 v (.string s) false).run Tryz.prog w = .ok (.agg #[.string (strB b)]) w := by
  rcases h with ⟨rfl, rfl⟩ | ⟨mb, rfl, hm⟩
  · cases hf
  · obtain ⟨u, ps, hrun, hv⟩ := hm.lookup (t := 43) (Maps.string_keyed Tryz.underlying9) Tryz.underlying43 (zero_obj w) (objElem_mk (s := ⟨#[]⟩) (by unfold maxLen; decide)) (name_key s hs)
    rw [hrun]
    rw [mapN_at, hf] at hv
    rw [(objElem_inv (b := b) hv).1]

theorem own_exactN {w : World} {b n : Nat} {l : List (List UInt8 × List UInt8)} (h : w.ownsMap Tryz.prog 9 objElem b n (mapN objD l)) : w.ownsMap Tryz.prog 9 objElem b l.length (mapN objD l) := by
  obtain ⟨es, clock, hb, F, hs, hD⟩ := h
  refine ⟨es, clock, hb, F, ?_, hD⟩
  have := congrArg Maps.size hD
  rw [mapN_size] at this
  simp [Maps.size, length_sorted] at this
  omega

section
variable {w : World} {o : Oper} {a : Act} {K : Act → World → Prop} {Q : Exit → Act → World → Prop}

/-- 'm[n] = object{..}'. -/
theorem wp_om_put (m x v : Operand) (t : TypeId) (hop : o.op = Op.mapUpdate t m x v) (nv : Value) (l : List (List UInt8 × List UInt8)) (n b : List UInt8) (ht : t = 43) (hm : a.eval m = nv) (hx : a.eval x = .string (strB n)) (hv : a.eval v = .agg #[.string (strB b)]) (hn : (strB n).size ≤ maxLen)
    (hnn : ∃ b, nv = .map (some b)) (h : Om w nv l) (hl : l.length < maxLen) (hb : (strB b).size ≤ maxLen) (hK : ∀ w', Om w' nv (nwith l n b) → w.grownBy w' (mapBlock nv) → w'.heap.size = w.heap.size → K (a.put o.dst undef) w') : Oper.wp Tryz.prog o a w K Q := by
  obtain ⟨mb, rfl⟩ := hnn
  rcases h with ⟨h, _⟩ | ⟨b', hb', hown⟩
  · cases h
  · cases hb'
    subst ht
    obtain ⟨w', hrun, r1, r2⟩ := hown.store (t := 43) (Maps.string_keyed Tryz.underlying9) Tryz.underlying43 hl (name_key (strB n) hn) (objElem_mk hb)
    unfold Oper.wp
    simp [execOp, hop, hm, hx, hv, hrun, Result.andThen]
    have e1 : (strB n).data.toList = n := rfl
    have e2 : (DataW.agg [DataW.lit (Lit.string (strB b).data.toList)] : DataW Unit) = objD b := rfl
    rw [e1, e2, mapN_put] at r1
    refine hK w' (.inr ⟨mb, rfl, own_exactN r1⟩) r2.grown ?_
    obtain ⟨es, clock, es', clock', hb, rfl⟩ := r2
    simp [ChangeMaps.setBlock]

/-- 'delete(m, n)'. -/
theorem wp_om_del (m x : Operand) (t k : TypeId) (hop : o.op = Op.call { callee := Callee.builtin Builtin.delete, args := #[m, x], argTypes := #[t, k] }) (nv : Value) (l : List (List UInt8 × List UInt8)) (n : List UInt8) (ht : t = 43) (hk : k = 9) (hm : a.eval m = nv) (hx : a.eval x = .string (strB n)) (hn : (strB n).size ≤ maxLen)
    (h : Om w nv l) (hK : ∀ w', Om w' nv (nwithout l n) → w.grownBy w' (mapBlock nv) → w'.heap.size = w.heap.size → K (a.put o.dst (.tuple #[])) w') : Oper.wp Tryz.prog o a w K Q := by
  subst ht; subst hk
  rcases h with ⟨rfl, rfl⟩ | ⟨b, rfl, hown⟩
  · have hrun := Maps.drop_nil (P := Tryz.prog) (w := w) (t := 43) (k := 9) (e := 67) (Maps.string_keyed Tryz.underlying9) Tryz.underlying43 (name_key (strB n) hn) o.type
    unfold Oper.wp
    simp [execOp, hop, resolve, invoke, builtin, hm, hx, hrun, Result.andThen]
    exact hK w (.inl ⟨rfl, rfl⟩) ⟨rfl, rfl, rfl, Nat.le_refl _, fun _ _ _ => rfl⟩ rfl
  · obtain ⟨w', hrun, r1, r2⟩ := hown.drop (t := 43) (Maps.string_keyed Tryz.underlying9) Tryz.underlying43 (name_key (strB n) hn) o.type
    unfold Oper.wp
    simp [execOp, hop, resolve, invoke, builtin, hm, hx, hrun, Result.andThen]
    have e1 : (strB n).data.toList = n := rfl
    rw [e1, mapN_del] at r1
    refine hK w' (.inr ⟨b, rfl, own_exactN r1⟩) r2.grown ?_
    obtain ⟨es, clock, es', clock', hb, rfl⟩ := r2
    simp [ChangeMaps.setBlock]
end

theorem eqlm_some (b : Nat) (w : World) : (binOp .eql 43 (.map (some b)) (.map none)).run Tryz.prog w = .ok (.bool false) w := by kernel_rfl
theorem eqlm_nil (w : World) : (binOp .eql 43 (.map none) (.map none)).run Tryz.prog w = .ok (.bool true) w := by kernel_rfl

theorem sclone_any (s : ByteArray) (w : World) (hs : s.size ≤ 281474976710656) :
    Calls Tryz.prog 47 #[.string s] w fun e w' => e = .returned (.string s) ∧ Below w.heap.size w w' := by
  go_enter Tryz.func47, Tryz.ntmps47
  go_wp2_with (go_at_call 60; refine (Any.stringslite_Clone Tryz.sclL s w hs).mono ?_; rintro e w1 ⟨rfl, hb⟩)
  go_ret
  exact ⟨rfl, hb⟩

/-- Bytes that can be read stay so, where their block stays. -/
theorem rdB_kept {R : Nat → Prop} {w w' : World} {v : Value} {l : List UInt8} (h : RdB w v l) (hk : Kept R w w') (hR : l ≠ [] → ∀ k, v.ownBlock = some k → k < w.heap.size → R k) : RdB w' v l := by
  obtain ⟨a, cap, rfl, h1, h2, h0, h3⟩ := h
  refine ⟨a, cap, rfl, h1, h2, h0, ?_⟩
  rcases h3 with h3 | ⟨b, off, rfl, h4, h5⟩
  · exact .inl h3
  · refine .inr ⟨b, off, rfl, Nat.lt_of_lt_of_le h4 hk.size, fun j u hj => ?_⟩
    have hne : l ≠ [] := by
      rintro rfl
      simp at hj
    exact (hk.cell (p := ⟨b, off + j, none⟩) (hR hne b rfl h4)).trans (h5 j u hj)

theorem RdB.blk_lt {w : World} {v : Value} {l : List UInt8} (h : RdB w v l) (hne : l ≠ []) : ∀ k, v.ownBlock = some k → k < w.heap.size := by
  intro k e
  obtain ⟨a, cap, rfl, h1, h2, h0, h3⟩ := h
  rcases h3 with h3 | ⟨b, off, rfl, h4, h5⟩
  · exact absurd (List.eq_nil_of_length_eq_zero h3.1) hne
  · cases e; exact h4

/-- A map of the store's has changed. -/
theorem FarAt.mapped {G : Nat → Prop} {w w' : World} {p : Nat} {f : FR} {l : List (List UInt8 × List UInt8)} (h : FarAt G w p f) {mv lv : Value} {mb : Nat} (hp : w.heap[p]? = some (.cells #[mv, lv, .int .i64 (f.calls : Int)] 45 (0, 0))) (hmv : ∀ k, mapBlock mv = some k → G k)
    (hp' : w'.heap[p]? = some (.cells #[.map (some mb), lv, .int .i64 (f.calls : Int)] 45 (0, 0))) (hk : Kept (fun k => k < w.heap.size ∧ k ≠ p ∧ mapBlock mv ≠ some k) w w') (hm : Om w' (.map (some mb)) l) (hmb : mapBlock mv = some mb ∨ w.heap.size ≤ mb) : FarTo G w w' p ⟨l, f.left, f.calls⟩ := by
  have hlt := hm.lt mb rfl
  refine ⟨fun k => G k ∨ k = mb, h.set_map hp hp' hk hm (fun k hk => .inl hk) ?_ (fun k e => by cases e; exact .inr rfl), ?_, ?_⟩
  · rintro k (hk' | rfl)
    · exact Nat.lt_of_lt_of_le (h.lt k hk') hk.size
    · exact hlt
  · exact Kept.mono hk fun k hk' => ⟨hk'.1, fun e => hk'.2 (e ▸ h.gp), fun e => hk'.2 (hmv k e)⟩
  · rintro k (hk' | rfl)
    · exact .inl hk'
    · rcases hmb with e | e
      · exact .inl (hmv _ e)
      · exact .inr ⟨e, hlt⟩

theorem enters_farPut1 : Enters Tryz.prog 45 := enters_of Tryz.func45 (by kernel_rfl) rfl

set_option maxRecDepth 100000 in
set_option maxHeartbeats 4000000 in
set_option linter.unusedSimpArgs false in
theorem farPut1_at {G : Nat → Prop} {w : World} {p : Nat} {f : FR} (h : FarAt G w p f) (hol : f.objs.length < 1000000000) (n b : List UInt8) (hnl : n.length ≤ maxLen) (v : Value) (hv : RdB w v b) (hbl : b.length ≤ maxLen) (bn bb bd : Nat)
    (hbn : w.cell? ⟨bn, 0, none⟩ = some (.string (strB n))) (hbb : w.cell? ⟨bb, 0, none⟩ = some v) (hbd : w.cell? ⟨bd, 0, none⟩ = some (.pointer (some ⟨p, 0, none⟩))) (obn : ¬ G bn) (obb : ¬ G bb) (obd : ¬ G bd) (ov : b ≠ [] → ∀ k, v.ownBlock = some k → ¬ G k) :
    Calls Tryz.prog 45 #[.pointer (some ⟨bn, 0, none⟩), .pointer (some ⟨bb, 0, none⟩), .pointer (some ⟨bd, 0, none⟩)] w fun e w' => e = .returned (.int .i64 (f.putE n b : Int)) ∧ FarTo G w w' p (f.putD n b) := by
  obtain ⟨va, vc, rfl, _, _⟩ := RdB.form hv
  have HNM := Lib.hid (farName_any w (strB n) (by rw [strB_size]; exact hnl))
  have hnd : (strB n).data.toList = n := rfl
  have H := Lib.hid h
  cases hok : nmOk n with
  | false =>
    have e1 : f.putE n b = 1 := by unfold FR.putE; rw [hok]; rfl
    have e2 : f.putD n b = f := by unfold FR.putD; rw [e1]; rfl
    rw [e1, e2]
    rw [hnd, hok] at HNM
    clear h hv hok e1 e2
    go_enter Tryz.func45, Tryz.ntmps45
    go_wp2_with (go_at_call 46; refine HNM.out.mono ?_; rintro e w1 ⟨rfl, hb1⟩)
    go_ret
    exact ⟨rfl, FarTo.of_below H.out hb1⟩
  | true =>
    rw [hnd, hok] at HNM
    have hnl40 : n.length ≤ 40 := by
      unfold nmOk at hok
      simp only [Bool.and_eq_true, decide_eq_true_eq] at hok
      exact hok.2
    by_cases hlg : 1048576 < b.length
    · have e1 : f.putE n b = 4 := by unfold FR.putE; rw [hok, if_neg (by simp), if_pos hlg]
      have e2 : f.putD n b = f := by unfold FR.putD; rw [e1]; rfl
      rw [e1, e2]
      have hbb1 := fun (w1 : World) (hb1 : Below w.heap.size w w1) => (hb1.cell (p := ⟨bb, 0, none⟩) (World.block_lt_of_cell? _ _ hbb)).trans hbb
      have HBB := Lib.hid hbb1
      clear h hv hok e1 e2 hbb hbb1
      go_enter Tryz.func45, Tryz.ntmps45
      go_wp2_with (go_at_call 46; refine HNM.out.mono ?_; rintro e w1 ⟨rfl, hb1⟩; have hbb := HBB.out w1 hb1)
      go_ret
      exact ⟨rfl, FarTo.of_below H.out hb1⟩
    · obtain ⟨⟨mv, lv, h1, h2, h3, h4, h5⟩, gp, glt⟩ := h
      have HBB := Lib.hid hbb
      have HBN0 := Lib.hid hbn
      have HBD0 := Lib.hid hbd
      have HP := Lib.hid h1
      have HOM0 := Lib.hid h2
      have HMV := Lib.hid h4
      have HV := Lib.hid hv
      have HNL := Lib.hid (show (strB n).size ≤ maxLen by rw [strB_size]; exact hnl)
      have HNS := Lib.hid (show (strB n).size ≤ 281474976710656 by rw [strB_size]; omega)
      have HBL := Lib.hid (show (strB b).size ≤ maxLen by rw [strB_size]; exact hbl)
      have HOL := Lib.hid (show f.objs.length < maxLen by unfold maxLen; omega)
      clear h1 h2 h3 h4 h5 hv
      have e0 : (!nmOk n) = false := by rw [hok]; rfl
      cases hf : nfind f.objs n with
      | some ob =>
        have e1 : f.putE n b = 3 := by unfold FR.putE; rw [e0, if_neg (by simp), if_neg hlg, hf]; rfl
        have e2 : f.putD n b = f := by unfold FR.putD; rw [e1]; rfl
        rw [e1, e2]
        have HF := Lib.hid (show nfind f.objs (strB n).data.toList = some ob from hf)
        clear hok e1 e2 e0 hf
        go_enter Tryz.func45, Tryz.ntmps45
        go_wp2_with (go_at_call 46; refine HNM.out.mono ?_; rintro e w1 ⟨rfl, hb1⟩; have hbb1 := (hb1.cell (p := ⟨bb, 0, none⟩) (World.block_lt_of_cell? _ _ HBB.out)).trans HBB.out)
        have hbz := hb1.drew
        obtain ⟨w2, hw2⟩ : ∃ w2, w2 = w1.drew := ⟨_, rfl⟩
        rw [← hw2] at hbz
        have Hw2 := Lib.hid hw2
        have HBZ := Lib.hid hbz
        clear hb1 hw2 hbz
        have HBD := Lib.hid ((HBZ.out.cell (p := ⟨bd, 0, none⟩) (World.block_lt_of_cell? _ _ HBD0.out)).trans HBD0.out)
        have HBN := Lib.hid ((HBZ.out.cell (p := ⟨bn, 0, none⟩) (World.block_lt_of_cell? _ _ HBN0.out)).trans HBN0.out)
        have HC0 := Lib.hid (show w2.cell? ⟨p, 0, none⟩ = some mv from blk_cell ((HBZ.out.block p (blk_lt HP.out)).trans HP.out))
        have HOM := Lib.hid (HOM0.out.kept (Kept.of HBZ.out (R := fun k => k < w.heap.size) fun _ h => h) HOM0.out.lt)
        have HLT := Lib.hid (show bd < w2.heap.size ∧ bn < w2.heap.size ∧ True ∧ p < w2.heap.size from ⟨World.block_lt_of_cell? _ _ HBD.out, World.block_lt_of_cell? _ _ HBN.out, trivial, World.block_lt_of_cell? _ _ HC0.out⟩)
        refine wp_region_two (fun wz => Below w2.heap.size w2 wz) (fun wz => Below w2.heap.size w2 wz) [(0, 0), (0, 1), (0, 2), (0, 3), (0, 4), (0, 5), (0, 6), (0, 7), (0, 8), (2, 9), (2, 10), (0, 11)] [] (by kernel_rfl) (by kernel_rfl) (by kernel_rfl) (by kernel_rfl) (by kernel_rfl) (by rw [← Hw2.out]; exact Below.refl _ _) (by rw [← Hw2.out]; exact Below.refl _ _) ?_
        simp only [planT, List.drop_succ_cons, List.drop_zero]
        rw [← Hw2.out]
        refine PlanT.take0 (v := ?vAs0) (by kernel_rfl) ?yAs0 ?rAs0
        case yAs0 => (intro wz hz; have k1 := (hz.cell (p := ⟨bd, 0, none⟩) HLT.out.1).trans HBD.out; have k2 := (hz.cell (p := ⟨bn, 0, none⟩) HLT.out.2.1).trans HBN.out; have k3 := (hz.cell (p := ⟨p, 0, none⟩) HLT.out.2.2.2).trans HC0.out; have hl := om_look_some (HOM.out.kept (Kept.of hz (R := fun k => k < w2.heap.size) fun _ h => h) HOM.out.lt) (strB n) HNL.out HF.out; clear hz; go_simp; try with_reducible rfl)
        (try simp only [Act.put, List.setIfInBounds_toArray, List.set_cons_zero, List.set_cons_succ])
        refine PlanT.take0 (v := ?vAs1) (by kernel_rfl) ?yAs1 ?rAs1
        case yAs1 => (intro wz hz; have k1 := (hz.cell (p := ⟨bd, 0, none⟩) HLT.out.1).trans HBD.out; have k2 := (hz.cell (p := ⟨bn, 0, none⟩) HLT.out.2.1).trans HBN.out; have k3 := (hz.cell (p := ⟨p, 0, none⟩) HLT.out.2.2.2).trans HC0.out; have hl := om_look_some (HOM.out.kept (Kept.of hz (R := fun k => k < w2.heap.size) fun _ h => h) HOM.out.lt) (strB n) HNL.out HF.out; clear hz; go_simp; try with_reducible rfl)
        (try simp only [Act.put, List.setIfInBounds_toArray, List.set_cons_zero, List.set_cons_succ])
        refine PlanT.take0 (v := ?vAs2) (by kernel_rfl) ?yAs2 ?rAs2
        case yAs2 => (intro wz hz; have k1 := (hz.cell (p := ⟨bd, 0, none⟩) HLT.out.1).trans HBD.out; have k2 := (hz.cell (p := ⟨bn, 0, none⟩) HLT.out.2.1).trans HBN.out; have k3 := (hz.cell (p := ⟨p, 0, none⟩) HLT.out.2.2.2).trans HC0.out; have hl := om_look_some (HOM.out.kept (Kept.of hz (R := fun k => k < w2.heap.size) fun _ h => h) HOM.out.lt) (strB n) HNL.out HF.out; clear hz; go_simp; try with_reducible rfl)
        (try simp only [Act.put, List.setIfInBounds_toArray, List.set_cons_zero, List.set_cons_succ])
        refine PlanT.take0 (v := ?vAs3) (by kernel_rfl) ?yAs3 ?rAs3
        case yAs3 => (intro wz hz; have k1 := (hz.cell (p := ⟨bd, 0, none⟩) HLT.out.1).trans HBD.out; have k2 := (hz.cell (p := ⟨bn, 0, none⟩) HLT.out.2.1).trans HBN.out; have k3 := (hz.cell (p := ⟨p, 0, none⟩) HLT.out.2.2.2).trans HC0.out; have hl := om_look_some (HOM.out.kept (Kept.of hz (R := fun k => k < w2.heap.size) fun _ h => h) HOM.out.lt) (strB n) HNL.out HF.out; clear hz; go_simp; try with_reducible rfl)
        (try simp only [Act.put, List.setIfInBounds_toArray, List.set_cons_zero, List.set_cons_succ])
        refine PlanT.take0 (v := ?vAs4) (by kernel_rfl) ?yAs4 ?rAs4
        case yAs4 => (intro wz hz; have k1 := (hz.cell (p := ⟨bd, 0, none⟩) HLT.out.1).trans HBD.out; have k2 := (hz.cell (p := ⟨bn, 0, none⟩) HLT.out.2.1).trans HBN.out; have k3 := (hz.cell (p := ⟨p, 0, none⟩) HLT.out.2.2.2).trans HC0.out; have hl := om_look_some (HOM.out.kept (Kept.of hz (R := fun k => k < w2.heap.size) fun _ h => h) HOM.out.lt) (strB n) HNL.out HF.out; clear hz; go_simp; try with_reducible rfl)
        (try simp only [Act.put, List.setIfInBounds_toArray, List.set_cons_zero, List.set_cons_succ])
        refine PlanT.take0 (v := ?vAs5) (by kernel_rfl) ?yAs5 ?rAs5
        case yAs5 => (intro wz hz; have k1 := (hz.cell (p := ⟨bd, 0, none⟩) HLT.out.1).trans HBD.out; have k2 := (hz.cell (p := ⟨bn, 0, none⟩) HLT.out.2.1).trans HBN.out; have k3 := (hz.cell (p := ⟨p, 0, none⟩) HLT.out.2.2.2).trans HC0.out; have hl := om_look_some (HOM.out.kept (Kept.of hz (R := fun k => k < w2.heap.size) fun _ h => h) HOM.out.lt) (strB n) HNL.out HF.out; clear hz; go_simp; try with_reducible rfl)
        (try simp only [Act.put, List.setIfInBounds_toArray, List.set_cons_zero, List.set_cons_succ])
        refine PlanT.take0 (v := ?vAs6) (by kernel_rfl) ?yAs6 ?rAs6
        case yAs6 => (intro wz hz; have k1 := (hz.cell (p := ⟨bd, 0, none⟩) HLT.out.1).trans HBD.out; have k2 := (hz.cell (p := ⟨bn, 0, none⟩) HLT.out.2.1).trans HBN.out; have k3 := (hz.cell (p := ⟨p, 0, none⟩) HLT.out.2.2.2).trans HC0.out; have hl := om_look_some (HOM.out.kept (Kept.of hz (R := fun k => k < w2.heap.size) fun _ h => h) HOM.out.lt) (strB n) HNL.out HF.out; clear hz; go_simp; try with_reducible rfl)
        (try simp only [Act.put, List.setIfInBounds_toArray, List.set_cons_zero, List.set_cons_succ])
        refine PlanT.take0 (v := ?vAs7) (by kernel_rfl) ?yAs7 ?rAs7
        case yAs7 => (intro wz hz; have k1 := (hz.cell (p := ⟨bd, 0, none⟩) HLT.out.1).trans HBD.out; have k2 := (hz.cell (p := ⟨bn, 0, none⟩) HLT.out.2.1).trans HBN.out; have k3 := (hz.cell (p := ⟨p, 0, none⟩) HLT.out.2.2.2).trans HC0.out; have hl := om_look_some (HOM.out.kept (Kept.of hz (R := fun k => k < w2.heap.size) fun _ h => h) HOM.out.lt) (strB n) HNL.out HF.out; clear hz; go_simp; try with_reducible rfl)
        (try simp only [Act.put, List.setIfInBounds_toArray, List.set_cons_zero, List.set_cons_succ])
        refine PlanT.take0 (v := ?vAs8) (by kernel_rfl) ?yAs8 ?rAs8
        case yAs8 => (intro wz hz; have k1 := (hz.cell (p := ⟨bd, 0, none⟩) HLT.out.1).trans HBD.out; have k2 := (hz.cell (p := ⟨bn, 0, none⟩) HLT.out.2.1).trans HBN.out; have k3 := (hz.cell (p := ⟨p, 0, none⟩) HLT.out.2.2.2).trans HC0.out; have hl := om_look_some (HOM.out.kept (Kept.of hz (R := fun k => k < w2.heap.size) fun _ h => h) HOM.out.lt) (strB n) HNL.out HF.out; clear hz; go_simp; try with_reducible rfl)
        (try simp only [Act.put, List.setIfInBounds_toArray, List.set_cons_zero, List.set_cons_succ])
        refine PlanT.exec2 (fun K hK => ⟨by kernel_rfl, ?_⟩)
        go_simp
        have hb3 : Below w2.heap.size w2 (w2.alloc (.cells #[.string ⟨#[]⟩] 67)) := (Below.refl _ _).alloc (Nat.le_refl _) _
        refine hK.out _ _ hb3 hb3 ?_
        clear hK K
        (try simp only [Act.put, List.setIfInBounds_toArray, List.set_cons_zero, List.set_cons_succ])
        refine PlanT.exec2 (fun K hK => ⟨by kernel_rfl, ?_⟩)
        go_simp
        have hb4 : Below w2.heap.size w2 (w2.alloc (.cells #[.string (strB ob)] 67)) := (Below.refl _ _).alloc (Nat.le_refl _) _
        refine hK.out _ _ hb4 hb4 ?_
        clear hK K
        (try simp only [Act.put, List.setIfInBounds_toArray, List.set_cons_zero, List.set_cons_succ])
        refine PlanT.take0 (v := ?vAs11) (by kernel_rfl) ?yAs11 ?rAs11
        case yAs11 => (intro wz hz; have k1 := (hz.cell (p := ⟨bd, 0, none⟩) HLT.out.1).trans HBD.out; have k2 := (hz.cell (p := ⟨bn, 0, none⟩) HLT.out.2.1).trans HBN.out; have k3 := (hz.cell (p := ⟨p, 0, none⟩) HLT.out.2.2.2).trans HC0.out; have hl := om_look_some (HOM.out.kept (Kept.of hz (R := fun k => k < w2.heap.size) fun _ h => h) HOM.out.lt) (strB n) HNL.out HF.out; clear hz; go_simp; try with_reducible rfl)
        (try simp only [Act.put, List.setIfInBounds_toArray, List.set_cons_zero, List.set_cons_succ])
        refine PlanT.done (NoPanic.normal ?_)
        go_wp2
        go_ret
        exact ⟨rfl, FarTo.of_below H.out (HBZ.out.trans (hb4.mono HBZ.out.size))⟩
      | none =>
        have e1 : f.putE n b = 0 := by unfold FR.putE; rw [e0, if_neg (by simp), if_neg hlg, hf]; rfl
        have e2 : f.putD n b = ⟨nwith f.objs n b, f.left, f.calls⟩ := by unfold FR.putD; rw [if_pos e1]
        rw [e1, e2]
        have HF := Lib.hid (show nfind f.objs (strB n).data.toList = none from hf)
        clear hok e1 e2 e0 hf
        go_enter Tryz.func45, Tryz.ntmps45
        go_wp2_with (go_at_call 46; refine HNM.out.mono ?_; rintro e w1 ⟨rfl, hb1⟩; have hbb1 := (hb1.cell (p := ⟨bb, 0, none⟩) (World.block_lt_of_cell? _ _ HBB.out)).trans HBB.out)
        have hbz := hb1.drew
        obtain ⟨w2, hw2⟩ : ∃ w2, w2 = w1.drew := ⟨_, rfl⟩
        rw [← hw2] at hbz
        have Hw2 := Lib.hid hw2
        have HBZ := Lib.hid hbz
        clear hb1 hw2 hbz hbb1
        have HBD := Lib.hid ((HBZ.out.cell (p := ⟨bd, 0, none⟩) (World.block_lt_of_cell? _ _ HBD0.out)).trans HBD0.out)
        have HBN := Lib.hid ((HBZ.out.cell (p := ⟨bn, 0, none⟩) (World.block_lt_of_cell? _ _ HBN0.out)).trans HBN0.out)
        have HC0 := Lib.hid (show w2.cell? ⟨p, 0, none⟩ = some mv from blk_cell ((HBZ.out.block p (blk_lt HP.out)).trans HP.out))
        have HOM := Lib.hid (HOM0.out.kept (Kept.of HBZ.out (R := fun k => k < w.heap.size) fun _ h => h) HOM0.out.lt)
        have HLT := Lib.hid (show bd < w2.heap.size ∧ bn < w2.heap.size ∧ True ∧ p < w2.heap.size from ⟨World.block_lt_of_cell? _ _ HBD.out, World.block_lt_of_cell? _ _ HBN.out, trivial, World.block_lt_of_cell? _ _ HC0.out⟩)
        refine wp_region_two (fun wz => Below w2.heap.size w2 wz) (fun wz => Below w2.heap.size w2 wz) [(0, 0), (0, 1), (0, 2), (0, 3), (0, 4), (0, 5), (0, 6), (0, 7), (0, 8), (2, 9), (2, 10), (0, 11)] [] (by kernel_rfl) (by kernel_rfl) (by kernel_rfl) (by kernel_rfl) (by kernel_rfl) (by rw [← Hw2.out]; exact Below.refl _ _) (by rw [← Hw2.out]; exact Below.refl _ _) ?_
        simp only [planT, List.drop_succ_cons, List.drop_zero]
        rw [← Hw2.out]
        refine PlanT.take0 (v := ?vAn0) (by kernel_rfl) ?yAn0 ?rAn0
        case yAn0 => (intro wz hz; have k1 := (hz.cell (p := ⟨bd, 0, none⟩) HLT.out.1).trans HBD.out; have k2 := (hz.cell (p := ⟨bn, 0, none⟩) HLT.out.2.1).trans HBN.out; have k3 := (hz.cell (p := ⟨p, 0, none⟩) HLT.out.2.2.2).trans HC0.out; have hl := om_look_none (HOM.out.kept (Kept.of hz (R := fun k => k < w2.heap.size) fun _ h => h) HOM.out.lt) (strB n) HNL.out HF.out; clear hz; go_simp; try with_reducible rfl)
        (try simp only [Act.put, List.setIfInBounds_toArray, List.set_cons_zero, List.set_cons_succ])
        refine PlanT.take0 (v := ?vAn1) (by kernel_rfl) ?yAn1 ?rAn1
        case yAn1 => (intro wz hz; have k1 := (hz.cell (p := ⟨bd, 0, none⟩) HLT.out.1).trans HBD.out; have k2 := (hz.cell (p := ⟨bn, 0, none⟩) HLT.out.2.1).trans HBN.out; have k3 := (hz.cell (p := ⟨p, 0, none⟩) HLT.out.2.2.2).trans HC0.out; have hl := om_look_none (HOM.out.kept (Kept.of hz (R := fun k => k < w2.heap.size) fun _ h => h) HOM.out.lt) (strB n) HNL.out HF.out; clear hz; go_simp; try with_reducible rfl)
        (try simp only [Act.put, List.setIfInBounds_toArray, List.set_cons_zero, List.set_cons_succ])
        refine PlanT.take0 (v := ?vAn2) (by kernel_rfl) ?yAn2 ?rAn2
        case yAn2 => (intro wz hz; have k1 := (hz.cell (p := ⟨bd, 0, none⟩) HLT.out.1).trans HBD.out; have k2 := (hz.cell (p := ⟨bn, 0, none⟩) HLT.out.2.1).trans HBN.out; have k3 := (hz.cell (p := ⟨p, 0, none⟩) HLT.out.2.2.2).trans HC0.out; have hl := om_look_none (HOM.out.kept (Kept.of hz (R := fun k => k < w2.heap.size) fun _ h => h) HOM.out.lt) (strB n) HNL.out HF.out; clear hz; go_simp; try with_reducible rfl)
        (try simp only [Act.put, List.setIfInBounds_toArray, List.set_cons_zero, List.set_cons_succ])
        refine PlanT.take0 (v := ?vAn3) (by kernel_rfl) ?yAn3 ?rAn3
        case yAn3 => (intro wz hz; have k1 := (hz.cell (p := ⟨bd, 0, none⟩) HLT.out.1).trans HBD.out; have k2 := (hz.cell (p := ⟨bn, 0, none⟩) HLT.out.2.1).trans HBN.out; have k3 := (hz.cell (p := ⟨p, 0, none⟩) HLT.out.2.2.2).trans HC0.out; have hl := om_look_none (HOM.out.kept (Kept.of hz (R := fun k => k < w2.heap.size) fun _ h => h) HOM.out.lt) (strB n) HNL.out HF.out; clear hz; go_simp; try with_reducible rfl)
        (try simp only [Act.put, List.setIfInBounds_toArray, List.set_cons_zero, List.set_cons_succ])
        refine PlanT.take0 (v := ?vAn4) (by kernel_rfl) ?yAn4 ?rAn4
        case yAn4 => (intro wz hz; have k1 := (hz.cell (p := ⟨bd, 0, none⟩) HLT.out.1).trans HBD.out; have k2 := (hz.cell (p := ⟨bn, 0, none⟩) HLT.out.2.1).trans HBN.out; have k3 := (hz.cell (p := ⟨p, 0, none⟩) HLT.out.2.2.2).trans HC0.out; have hl := om_look_none (HOM.out.kept (Kept.of hz (R := fun k => k < w2.heap.size) fun _ h => h) HOM.out.lt) (strB n) HNL.out HF.out; clear hz; go_simp; try with_reducible rfl)
        (try simp only [Act.put, List.setIfInBounds_toArray, List.set_cons_zero, List.set_cons_succ])
        refine PlanT.take0 (v := ?vAn5) (by kernel_rfl) ?yAn5 ?rAn5
        case yAn5 => (intro wz hz; have k1 := (hz.cell (p := ⟨bd, 0, none⟩) HLT.out.1).trans HBD.out; have k2 := (hz.cell (p := ⟨bn, 0, none⟩) HLT.out.2.1).trans HBN.out; have k3 := (hz.cell (p := ⟨p, 0, none⟩) HLT.out.2.2.2).trans HC0.out; have hl := om_look_none (HOM.out.kept (Kept.of hz (R := fun k => k < w2.heap.size) fun _ h => h) HOM.out.lt) (strB n) HNL.out HF.out; clear hz; go_simp; try with_reducible rfl)
        (try simp only [Act.put, List.setIfInBounds_toArray, List.set_cons_zero, List.set_cons_succ])
        refine PlanT.take0 (v := ?vAn6) (by kernel_rfl) ?yAn6 ?rAn6
        case yAn6 => (intro wz hz; have k1 := (hz.cell (p := ⟨bd, 0, none⟩) HLT.out.1).trans HBD.out; have k2 := (hz.cell (p := ⟨bn, 0, none⟩) HLT.out.2.1).trans HBN.out; have k3 := (hz.cell (p := ⟨p, 0, none⟩) HLT.out.2.2.2).trans HC0.out; have hl := om_look_none (HOM.out.kept (Kept.of hz (R := fun k => k < w2.heap.size) fun _ h => h) HOM.out.lt) (strB n) HNL.out HF.out; clear hz; go_simp; try with_reducible rfl)
        (try simp only [Act.put, List.setIfInBounds_toArray, List.set_cons_zero, List.set_cons_succ])
        refine PlanT.take0 (v := ?vAn7) (by kernel_rfl) ?yAn7 ?rAn7
        case yAn7 => (intro wz hz; have k1 := (hz.cell (p := ⟨bd, 0, none⟩) HLT.out.1).trans HBD.out; have k2 := (hz.cell (p := ⟨bn, 0, none⟩) HLT.out.2.1).trans HBN.out; have k3 := (hz.cell (p := ⟨p, 0, none⟩) HLT.out.2.2.2).trans HC0.out; have hl := om_look_none (HOM.out.kept (Kept.of hz (R := fun k => k < w2.heap.size) fun _ h => h) HOM.out.lt) (strB n) HNL.out HF.out; clear hz; go_simp; try with_reducible rfl)
        (try simp only [Act.put, List.setIfInBounds_toArray, List.set_cons_zero, List.set_cons_succ])
        refine PlanT.take0 (v := ?vAn8) (by kernel_rfl) ?yAn8 ?rAn8
        case yAn8 => (intro wz hz; have k1 := (hz.cell (p := ⟨bd, 0, none⟩) HLT.out.1).trans HBD.out; have k2 := (hz.cell (p := ⟨bn, 0, none⟩) HLT.out.2.1).trans HBN.out; have k3 := (hz.cell (p := ⟨p, 0, none⟩) HLT.out.2.2.2).trans HC0.out; have hl := om_look_none (HOM.out.kept (Kept.of hz (R := fun k => k < w2.heap.size) fun _ h => h) HOM.out.lt) (strB n) HNL.out HF.out; clear hz; go_simp; try with_reducible rfl)
        (try simp only [Act.put, List.setIfInBounds_toArray, List.set_cons_zero, List.set_cons_succ])
        refine PlanT.exec2 (fun K hK => ⟨by kernel_rfl, ?_⟩)
        go_simp
        have hb3 : Below w2.heap.size w2 (w2.alloc (.cells #[.string ⟨#[]⟩] 67)) := (Below.refl _ _).alloc (Nat.le_refl _) _
        refine hK.out _ _ hb3 hb3 ?_
        clear hK K
        (try simp only [Act.put, List.setIfInBounds_toArray, List.set_cons_zero, List.set_cons_succ])
        refine PlanT.exec2 (fun K hK => ⟨by kernel_rfl, ?_⟩)
        go_simp
        have hb4 : Below w2.heap.size w2 (w2.alloc (.cells #[.string ⟨#[]⟩] 67)) := (Below.refl _ _).alloc (Nat.le_refl _) _
        refine hK.out _ _ hb4 hb4 ?_
        clear hK K
        (try simp only [Act.put, List.setIfInBounds_toArray, List.set_cons_zero, List.set_cons_succ])
        refine PlanT.take0 (v := ?vAn11) (by kernel_rfl) ?yAn11 ?rAn11
        case yAn11 => (intro wz hz; have k1 := (hz.cell (p := ⟨bd, 0, none⟩) HLT.out.1).trans HBD.out; have k2 := (hz.cell (p := ⟨bn, 0, none⟩) HLT.out.2.1).trans HBN.out; have k3 := (hz.cell (p := ⟨p, 0, none⟩) HLT.out.2.2.2).trans HC0.out; have hl := om_look_none (HOM.out.kept (Kept.of hz (R := fun k => k < w2.heap.size) fun _ h => h) HOM.out.lt) (strB n) HNL.out HF.out; clear hz; go_simp; try with_reducible rfl)
        (try simp only [Act.put, List.setIfInBounds_toArray, List.set_cons_zero, List.set_cons_succ])
        refine PlanT.done (NoPanic.normal ?_)
        obtain ⟨w3, hw3⟩ : ∃ w3, w3 = w2.alloc (.cells #[.string ⟨#[]⟩] 67) := ⟨_, rfl⟩
        rw [← hw3] at hb4 ⊢
        have HB3 := Lib.hid (HBZ.out.trans (hb4.mono HBZ.out.size))
        clear hw3 hb3 hb4
        have HBD3 := Lib.hid ((HB3.out.cell (p := ⟨bd, 0, none⟩) (World.block_lt_of_cell? _ _ HBD0.out)).trans HBD0.out)
        have HP3 := Lib.hid ((HB3.out.block p (blk_lt HP.out)).trans HP.out)
        have kbd := HBD3.out
        have kc0 : w3.cell? ⟨p, 0, none⟩ = some mv := blk_cell HP3.out
        have kf0 : w3.frozen? ⟨p, 0, none⟩ = false := blk_free HP3.out
        have hes := eqlm_some
        have hen := eqlm_nil
        obtain ⟨mvb, hmvb⟩ := HOM0.out.form
        subst hmvb
        have hmm := @run_makeMap Tryz.prog
        cases mvb with
        | some mb =>
          go_wp2
          obtain ⟨w6, hw6⟩ : ∃ w6, w6 = w3.drew := ⟨_, rfl⟩
          have HB6 := Lib.hid (show Below w.heap.size w w6 by rw [hw6]; exact HB3.out.drew)
          have Hw6 := Lib.hid hw6
          have HK6 := Lib.hid (Kept.of HB6.out (R := fun k => k < w.heap.size ∧ k ≠ p) fun _ h => h.1)
          have HP6 := Lib.hid ((HB6.out.block p (blk_lt HP.out)).trans HP.out)
          have HOM6 := Lib.hid (HOM0.out.kept (Kept.of HB6.out (R := fun k => k < w.heap.size) fun _ h => h) HOM0.out.lt)
          clear hw6
          have HBD6 := Lib.hid ((HK6.out.cell (p := ⟨bd, 0, none⟩) ⟨World.block_lt_of_cell? _ _ HBD0.out, fun e => obd ((show bd = p from e) ▸ gp)⟩).trans HBD0.out)
          have HBN6 := Lib.hid ((HK6.out.cell (p := ⟨bn, 0, none⟩) ⟨World.block_lt_of_cell? _ _ HBN0.out, fun e => obn ((show bn = p from e) ▸ gp)⟩).trans HBN0.out)
          have HBB6 := Lib.hid ((HK6.out.cell (p := ⟨bb, 0, none⟩) ⟨World.block_lt_of_cell? _ _ HBB.out, fun e => obb ((show bb = p from e) ▸ gp)⟩).trans HBB.out)
          have HC6 := Lib.hid (show w6.cell? ⟨p, 0, none⟩ = some (.map (some mb)) from blk_cell HP6.out)
          have HRD6 := Lib.hid (rdB_kept HV.out HK6.out fun hne k e hk => ⟨hk, fun ep => ov hne k e (ep ▸ gp)⟩)
          have HGM : ∀ k, k < w.heap.size → k = mb → G k := fun k _ e => HMV.out k (by rw [e]; rfl)
          have HN6 := Lib.hid (show (bd < w6.heap.size ∧ mb ≠ bd) ∧ (bn < w6.heap.size ∧ mb ≠ bn) ∧ (bb < w6.heap.size ∧ mb ≠ bb) ∧ (p < w6.heap.size ∧ mb ≠ p) from ⟨⟨World.block_lt_of_cell? _ _ HBD6.out, fun e => obd (HGM bd (World.block_lt_of_cell? _ _ HBD0.out) e.symm)⟩, ⟨World.block_lt_of_cell? _ _ HBN6.out, fun e => obn (HGM bn (World.block_lt_of_cell? _ _ HBN0.out) e.symm)⟩, ⟨World.block_lt_of_cell? _ _ HBB6.out, fun e => obb (HGM bb (World.block_lt_of_cell? _ _ HBB.out) e.symm)⟩, ⟨blk_lt HP6.out, fun e => HOM6.out.ne HP6.out (by rw [e]; rfl)⟩⟩)
          have HBK6 := Lib.hid (show b ≠ [] → ∀ k, (Value.slice va b.length vc).ownBlock = some k → k < w6.heap.size → k < w6.heap.size ∧ mb ≠ k from fun hne k e hk => ⟨hk, fun em => ov hne k e (HGM k (HV.out.blk_lt hne k e) em.symm)⟩)
          try clear kc1 kf1
          clear kbd kc0 kf0 HBD3 HP3 hes hen hmm HGM
          refine wp_region_two (fun wz => Kept (fun k => k < w6.heap.size ∧ mb ≠ k) w6 wz) (fun wz => Kept (fun k => k < w6.heap.size ∧ mb ≠ k) w6 wz) [(0, 0), (0, 1), (0, 2), (0, 3), (0, 4), (0, 6), (0, 7), (0, 8), (2, 5), (2, 9)] [] (by kernel_rfl) (by kernel_rfl) (by kernel_rfl) (by kernel_rfl) (by kernel_rfl) (by rw [← Hw6.out]; exact Kept.refl _ _) (by rw [← Hw6.out]; exact Kept.refl _ _) ?_
          simp only [planT, List.drop_succ_cons, List.drop_zero]
          rw [← Hw6.out]
          refine PlanT.take0 (v := ?vT0) (by kernel_rfl) ?yT0 ?rT0
          case yT0 => (intro wz hz; have k1 := (hz.cell (p := ⟨bd, 0, none⟩) HN6.out.1).trans HBD6.out; have k2 := (hz.cell (p := ⟨bn, 0, none⟩) HN6.out.2.1).trans HBN6.out; have k3 := (hz.cell (p := ⟨p, 0, none⟩) HN6.out.2.2.2).trans HC6.out; have k4 := (hz.cell (p := ⟨bb, 0, none⟩) HN6.out.2.2.1).trans HBB6.out; have hcv := rdB_convert (rdB_kept HRD6.out hz HBK6.out) 31 5 9 Tryz.underlying31 Tryz.underlying5 Tryz.underlying9; clear hz; go_simp; try with_reducible rfl)
          (try simp only [Act.put, List.setIfInBounds_toArray, List.set_cons_zero, List.set_cons_succ])
          refine PlanT.take0 (v := ?vT1) (by kernel_rfl) ?yT1 ?rT1
          case yT1 => (intro wz hz; have k1 := (hz.cell (p := ⟨bd, 0, none⟩) HN6.out.1).trans HBD6.out; have k2 := (hz.cell (p := ⟨bn, 0, none⟩) HN6.out.2.1).trans HBN6.out; have k3 := (hz.cell (p := ⟨p, 0, none⟩) HN6.out.2.2.2).trans HC6.out; have k4 := (hz.cell (p := ⟨bb, 0, none⟩) HN6.out.2.2.1).trans HBB6.out; have hcv := rdB_convert (rdB_kept HRD6.out hz HBK6.out) 31 5 9 Tryz.underlying31 Tryz.underlying5 Tryz.underlying9; clear hz; go_simp; try with_reducible rfl)
          (try simp only [Act.put, List.setIfInBounds_toArray, List.set_cons_zero, List.set_cons_succ])
          refine PlanT.take0 (v := ?vT2) (by kernel_rfl) ?yT2 ?rT2
          case yT2 => (intro wz hz; have k1 := (hz.cell (p := ⟨bd, 0, none⟩) HN6.out.1).trans HBD6.out; have k2 := (hz.cell (p := ⟨bn, 0, none⟩) HN6.out.2.1).trans HBN6.out; have k3 := (hz.cell (p := ⟨p, 0, none⟩) HN6.out.2.2.2).trans HC6.out; have k4 := (hz.cell (p := ⟨bb, 0, none⟩) HN6.out.2.2.1).trans HBB6.out; have hcv := rdB_convert (rdB_kept HRD6.out hz HBK6.out) 31 5 9 Tryz.underlying31 Tryz.underlying5 Tryz.underlying9; clear hz; go_simp; try with_reducible rfl)
          (try simp only [Act.put, List.setIfInBounds_toArray, List.set_cons_zero, List.set_cons_succ])
          refine PlanT.take0 (v := ?vT3) (by kernel_rfl) ?yT3 ?rT3
          case yT3 => (intro wz hz; have k1 := (hz.cell (p := ⟨bd, 0, none⟩) HN6.out.1).trans HBD6.out; have k2 := (hz.cell (p := ⟨bn, 0, none⟩) HN6.out.2.1).trans HBN6.out; have k3 := (hz.cell (p := ⟨p, 0, none⟩) HN6.out.2.2.2).trans HC6.out; have k4 := (hz.cell (p := ⟨bb, 0, none⟩) HN6.out.2.2.1).trans HBB6.out; have hcv := rdB_convert (rdB_kept HRD6.out hz HBK6.out) 31 5 9 Tryz.underlying31 Tryz.underlying5 Tryz.underlying9; clear hz; go_simp; try with_reducible rfl)
          (try simp only [Act.put, List.setIfInBounds_toArray, List.set_cons_zero, List.set_cons_succ])
          refine PlanT.take0 (v := ?vT4) (by kernel_rfl) ?yT4 ?rT4
          case yT4 => (intro wz hz; have k1 := (hz.cell (p := ⟨bd, 0, none⟩) HN6.out.1).trans HBD6.out; have k2 := (hz.cell (p := ⟨bn, 0, none⟩) HN6.out.2.1).trans HBN6.out; have k3 := (hz.cell (p := ⟨p, 0, none⟩) HN6.out.2.2.2).trans HC6.out; have k4 := (hz.cell (p := ⟨bb, 0, none⟩) HN6.out.2.2.1).trans HBB6.out; have hcv := rdB_convert (rdB_kept HRD6.out hz HBK6.out) 31 5 9 Tryz.underlying31 Tryz.underlying5 Tryz.underlying9; clear hz; go_simp; try with_reducible rfl)
          (try simp only [Act.put, List.setIfInBounds_toArray, List.set_cons_zero, List.set_cons_succ])
          refine PlanT.take0 (v := ?vT6) (by kernel_rfl) ?yT6 ?rT6
          case yT6 => (intro wz hz; have k1 := (hz.cell (p := ⟨bd, 0, none⟩) HN6.out.1).trans HBD6.out; have k2 := (hz.cell (p := ⟨bn, 0, none⟩) HN6.out.2.1).trans HBN6.out; have k3 := (hz.cell (p := ⟨p, 0, none⟩) HN6.out.2.2.2).trans HC6.out; have k4 := (hz.cell (p := ⟨bb, 0, none⟩) HN6.out.2.2.1).trans HBB6.out; have hcv := rdB_convert (rdB_kept HRD6.out hz HBK6.out) 31 5 9 Tryz.underlying31 Tryz.underlying5 Tryz.underlying9; clear hz; go_simp; try with_reducible rfl)
          (try simp only [Act.put, List.setIfInBounds_toArray, List.set_cons_zero, List.set_cons_succ])
          refine PlanT.take0 (v := ?vT7) (by kernel_rfl) ?yT7 ?rT7
          case yT7 => (intro wz hz; have k1 := (hz.cell (p := ⟨bd, 0, none⟩) HN6.out.1).trans HBD6.out; have k2 := (hz.cell (p := ⟨bn, 0, none⟩) HN6.out.2.1).trans HBN6.out; have k3 := (hz.cell (p := ⟨p, 0, none⟩) HN6.out.2.2.2).trans HC6.out; have k4 := (hz.cell (p := ⟨bb, 0, none⟩) HN6.out.2.2.1).trans HBB6.out; have hcv := rdB_convert (rdB_kept HRD6.out hz HBK6.out) 31 5 9 Tryz.underlying31 Tryz.underlying5 Tryz.underlying9; clear hz; go_simp; try with_reducible rfl)
          (try simp only [Act.put, List.setIfInBounds_toArray, List.set_cons_zero, List.set_cons_succ])
          refine PlanT.take0 (v := ?vT8) (by kernel_rfl) ?yT8 ?rT8
          case yT8 => (intro wz hz; have k1 := (hz.cell (p := ⟨bd, 0, none⟩) HN6.out.1).trans HBD6.out; have k2 := (hz.cell (p := ⟨bn, 0, none⟩) HN6.out.2.1).trans HBN6.out; have k3 := (hz.cell (p := ⟨p, 0, none⟩) HN6.out.2.2.2).trans HC6.out; have k4 := (hz.cell (p := ⟨bb, 0, none⟩) HN6.out.2.2.1).trans HBB6.out; have hcv := rdB_convert (rdB_kept HRD6.out hz HBK6.out) 31 5 9 Tryz.underlying31 Tryz.underlying5 Tryz.underlying9; clear hz; go_simp; try with_reducible rfl)
          (try simp only [Act.put, List.setIfInBounds_toArray, List.set_cons_zero, List.set_cons_succ])
          refine PlanT.exec2 (fun K hK => ⟨by kernel_rfl, ?_⟩)
          go_simp
          (refine (sclone_any (strB n) w6 HNS.out).mono ?_)
          rintro e w7 ⟨rfl, hb7⟩
          have hk7 : Kept (fun k => k < w6.heap.size ∧ mb ≠ k) w6 w7 := Kept.of hb7 fun _ h => h.1
          have ho7 := HOM6.out.kept (Kept.of hb7 (R := fun k => k < w6.heap.size) fun _ h => h) HOM6.out.lt
          refine hK.out _ _ hk7 hk7 ?_
          clear hK K
          (try simp only [Act.put, List.setIfInBounds_toArray, List.set_cons_zero, List.set_cons_succ])
          refine PlanT.exec2 (fun K hK => ⟨by kernel_rfl, ?_⟩)
          refine wp_om_put (.tmp 34) (.tmp 36) (.tmp 39) 43 rfl (.map (some mb)) f.objs n b rfl rfl rfl rfl HNL.out ⟨_, rfl⟩ ho7 HOL.out HBL.out ?_
          intro w8 ho8 hg8 hs8
          have hk8 : Kept (fun k => k < w6.heap.size ∧ mb ≠ k) w6 w8 := hk7.grown hg8 (fun k hk => Nat.lt_of_lt_of_le hk.1 hk7.size) (fun k hk hk2 => by cases hk; exact hk2.2 rfl)
          refine hK.out _ _ hk8 hk8 ?_
          clear hK K
          (try simp only [Act.put, List.setIfInBounds_toArray, List.set_cons_zero, List.set_cons_succ])
          refine PlanT.done (NoPanic.normal ?_)
          go_wp2
          go_ret
          have hp8 := (hk8.block p HN6.out.2.2.2).trans HP6.out
          exact ⟨rfl, H.out.mapped HP.out HMV.out hp8 ((Kept.mono HK6.out fun k hk => ⟨hk.1, hk.2.1⟩).trans (Kept.mono hk8 fun k hk => ⟨Nat.lt_of_lt_of_le hk.1 HK6.out.size, fun e => hk.2.2 (by rw [e]; rfl)⟩)) ho8 (.inl rfl)⟩
        | none =>
          have kc1 : (w3.alloc (.map #[] 0)).cell? ⟨p, 0, none⟩ = some (.map none) := (World.cell?_alloc_lt _ _ _ (blk_lt HP3.out)).trans kc0
          have kf1 : (w3.alloc (.map #[] 0)).frozen? ⟨p, 0, none⟩ = false := blk_free ((Below.heap_alloc w3 _ p (blk_lt HP3.out)).trans HP3.out)
          go_wp2
          obtain ⟨w6, hw6⟩ : ∃ w6, w6 = ((w3.alloc (.map #[] 0)).setCell ⟨p, 0, none⟩ (.map (some w3.heap.size))).drew := ⟨_, rfl⟩
          obtain ⟨mb, hmb⟩ : ∃ mb, mb = w3.heap.size := ⟨_, rfl⟩
          have HK6 := Lib.hid (show Kept (fun k => k < w.heap.size ∧ k ≠ p) w w6 by
            rw [hw6]
            exact (((Kept.of HB3.out (R := fun k => k < w.heap.size ∧ k ≠ p) fun _ h => h.1).alloc (fun k hk => Nat.lt_of_lt_of_le hk.1 HB3.out.size) _).setCell (fun h => h.2 rfl) _).drew)
          have HP6 := Lib.hid (show w6.heap[p]? = some (.cells #[.map (some mb), lv, .int .i64 (f.calls : Int)] 45 (0, 0)) by
            rw [hw6, hmb]
            exact (blk_set (i := 0) ((Below.heap_alloc w3 _ p (blk_lt HP3.out)).trans HP3.out) (.map (some w3.heap.size))).trans (by simp))
          have HOM6 := Lib.hid (show Om w6 (.map (some mb)) f.objs by
            have hempty : f.objs = [] := by
              rcases HOM0.out with ⟨_, h⟩ | ⟨b, h, _⟩
              · exact h
              · cases h
            rw [hempty, hw6, hmb]
            exact .inr ⟨_, rfl, ((World.ownsMap_made w3 Tryz.prog 9 objElem).setCell (a := ⟨p, 0, none⟩) (by have := blk_lt HP3.out; show w3.heap.size ≠ p; omega) _).drew⟩)
          have HMB := Lib.hid (show w.heap.size ≤ mb by rw [hmb]; exact HB3.out.size)
          have Hw6 := Lib.hid (show w6 = ((w3.alloc (.map #[] 0)).setCell ⟨p, 0, none⟩ (.map (some mb))).drew by rw [hmb]; exact hw6)
          rw [← hmb]
          clear hw6 hmb
          have HBD6 := Lib.hid ((HK6.out.cell (p := ⟨bd, 0, none⟩) ⟨World.block_lt_of_cell? _ _ HBD0.out, fun e => obd ((show bd = p from e) ▸ gp)⟩).trans HBD0.out)
          have HBN6 := Lib.hid ((HK6.out.cell (p := ⟨bn, 0, none⟩) ⟨World.block_lt_of_cell? _ _ HBN0.out, fun e => obn ((show bn = p from e) ▸ gp)⟩).trans HBN0.out)
          have HBB6 := Lib.hid ((HK6.out.cell (p := ⟨bb, 0, none⟩) ⟨World.block_lt_of_cell? _ _ HBB.out, fun e => obb ((show bb = p from e) ▸ gp)⟩).trans HBB.out)
          have HC6 := Lib.hid (show w6.cell? ⟨p, 0, none⟩ = some (.map (some mb)) from blk_cell HP6.out)
          have HRD6 := Lib.hid (rdB_kept HV.out HK6.out fun hne k e hk => ⟨hk, fun ep => ov hne k e (ep ▸ gp)⟩)
          have HGM : ∀ k, k < w.heap.size → k = mb → G k := fun k hk e => by have := HMB.out; omega
          have HN6 := Lib.hid (show (bd < w6.heap.size ∧ mb ≠ bd) ∧ (bn < w6.heap.size ∧ mb ≠ bn) ∧ (bb < w6.heap.size ∧ mb ≠ bb) ∧ (p < w6.heap.size ∧ mb ≠ p) from ⟨⟨World.block_lt_of_cell? _ _ HBD6.out, fun e => obd (HGM bd (World.block_lt_of_cell? _ _ HBD0.out) e.symm)⟩, ⟨World.block_lt_of_cell? _ _ HBN6.out, fun e => obn (HGM bn (World.block_lt_of_cell? _ _ HBN0.out) e.symm)⟩, ⟨World.block_lt_of_cell? _ _ HBB6.out, fun e => obb (HGM bb (World.block_lt_of_cell? _ _ HBB.out) e.symm)⟩, ⟨blk_lt HP6.out, fun e => HOM6.out.ne HP6.out (by rw [e]; rfl)⟩⟩)
          have HBK6 := Lib.hid (show b ≠ [] → ∀ k, (Value.slice va b.length vc).ownBlock = some k → k < w6.heap.size → k < w6.heap.size ∧ mb ≠ k from fun hne k e hk => ⟨hk, fun em => ov hne k e (HGM k (HV.out.blk_lt hne k e) em.symm)⟩)
          try clear kc1 kf1
          clear kbd kc0 kf0 HBD3 HP3 hes hen hmm HGM
          refine wp_region_two (fun wz => Kept (fun k => k < w6.heap.size ∧ mb ≠ k) w6 wz) (fun wz => Kept (fun k => k < w6.heap.size ∧ mb ≠ k) w6 wz) [(0, 0), (0, 1), (0, 2), (0, 3), (0, 4), (0, 6), (0, 7), (0, 8), (2, 5), (2, 9)] [] (by kernel_rfl) (by kernel_rfl) (by kernel_rfl) (by kernel_rfl) (by kernel_rfl) (by rw [← Hw6.out]; exact Kept.refl _ _) (by rw [← Hw6.out]; exact Kept.refl _ _) ?_
          simp only [planT, List.drop_succ_cons, List.drop_zero]
          rw [← Hw6.out]
          refine PlanT.take0 (v := ?vU0) (by kernel_rfl) ?yU0 ?rU0
          case yU0 => (intro wz hz; have k1 := (hz.cell (p := ⟨bd, 0, none⟩) HN6.out.1).trans HBD6.out; have k2 := (hz.cell (p := ⟨bn, 0, none⟩) HN6.out.2.1).trans HBN6.out; have k3 := (hz.cell (p := ⟨p, 0, none⟩) HN6.out.2.2.2).trans HC6.out; have k4 := (hz.cell (p := ⟨bb, 0, none⟩) HN6.out.2.2.1).trans HBB6.out; have hcv := rdB_convert (rdB_kept HRD6.out hz HBK6.out) 31 5 9 Tryz.underlying31 Tryz.underlying5 Tryz.underlying9; clear hz; go_simp; try with_reducible rfl)
          (try simp only [Act.put, List.setIfInBounds_toArray, List.set_cons_zero, List.set_cons_succ])
          refine PlanT.take0 (v := ?vU1) (by kernel_rfl) ?yU1 ?rU1
          case yU1 => (intro wz hz; have k1 := (hz.cell (p := ⟨bd, 0, none⟩) HN6.out.1).trans HBD6.out; have k2 := (hz.cell (p := ⟨bn, 0, none⟩) HN6.out.2.1).trans HBN6.out; have k3 := (hz.cell (p := ⟨p, 0, none⟩) HN6.out.2.2.2).trans HC6.out; have k4 := (hz.cell (p := ⟨bb, 0, none⟩) HN6.out.2.2.1).trans HBB6.out; have hcv := rdB_convert (rdB_kept HRD6.out hz HBK6.out) 31 5 9 Tryz.underlying31 Tryz.underlying5 Tryz.underlying9; clear hz; go_simp; try with_reducible rfl)
          (try simp only [Act.put, List.setIfInBounds_toArray, List.set_cons_zero, List.set_cons_succ])
          refine PlanT.take0 (v := ?vU2) (by kernel_rfl) ?yU2 ?rU2
          case yU2 => (intro wz hz; have k1 := (hz.cell (p := ⟨bd, 0, none⟩) HN6.out.1).trans HBD6.out; have k2 := (hz.cell (p := ⟨bn, 0, none⟩) HN6.out.2.1).trans HBN6.out; have k3 := (hz.cell (p := ⟨p, 0, none⟩) HN6.out.2.2.2).trans HC6.out; have k4 := (hz.cell (p := ⟨bb, 0, none⟩) HN6.out.2.2.1).trans HBB6.out; have hcv := rdB_convert (rdB_kept HRD6.out hz HBK6.out) 31 5 9 Tryz.underlying31 Tryz.underlying5 Tryz.underlying9; clear hz; go_simp; try with_reducible rfl)
          (try simp only [Act.put, List.setIfInBounds_toArray, List.set_cons_zero, List.set_cons_succ])
          refine PlanT.take0 (v := ?vU3) (by kernel_rfl) ?yU3 ?rU3
          case yU3 => (intro wz hz; have k1 := (hz.cell (p := ⟨bd, 0, none⟩) HN6.out.1).trans HBD6.out; have k2 := (hz.cell (p := ⟨bn, 0, none⟩) HN6.out.2.1).trans HBN6.out; have k3 := (hz.cell (p := ⟨p, 0, none⟩) HN6.out.2.2.2).trans HC6.out; have k4 := (hz.cell (p := ⟨bb, 0, none⟩) HN6.out.2.2.1).trans HBB6.out; have hcv := rdB_convert (rdB_kept HRD6.out hz HBK6.out) 31 5 9 Tryz.underlying31 Tryz.underlying5 Tryz.underlying9; clear hz; go_simp; try with_reducible rfl)
          (try simp only [Act.put, List.setIfInBounds_toArray, List.set_cons_zero, List.set_cons_succ])
          refine PlanT.take0 (v := ?vU4) (by kernel_rfl) ?yU4 ?rU4
          case yU4 => (intro wz hz; have k1 := (hz.cell (p := ⟨bd, 0, none⟩) HN6.out.1).trans HBD6.out; have k2 := (hz.cell (p := ⟨bn, 0, none⟩) HN6.out.2.1).trans HBN6.out; have k3 := (hz.cell (p := ⟨p, 0, none⟩) HN6.out.2.2.2).trans HC6.out; have k4 := (hz.cell (p := ⟨bb, 0, none⟩) HN6.out.2.2.1).trans HBB6.out; have hcv := rdB_convert (rdB_kept HRD6.out hz HBK6.out) 31 5 9 Tryz.underlying31 Tryz.underlying5 Tryz.underlying9; clear hz; go_simp; try with_reducible rfl)
          (try simp only [Act.put, List.setIfInBounds_toArray, List.set_cons_zero, List.set_cons_succ])
          refine PlanT.take0 (v := ?vU6) (by kernel_rfl) ?yU6 ?rU6
          case yU6 => (intro wz hz; have k1 := (hz.cell (p := ⟨bd, 0, none⟩) HN6.out.1).trans HBD6.out; have k2 := (hz.cell (p := ⟨bn, 0, none⟩) HN6.out.2.1).trans HBN6.out; have k3 := (hz.cell (p := ⟨p, 0, none⟩) HN6.out.2.2.2).trans HC6.out; have k4 := (hz.cell (p := ⟨bb, 0, none⟩) HN6.out.2.2.1).trans HBB6.out; have hcv := rdB_convert (rdB_kept HRD6.out hz HBK6.out) 31 5 9 Tryz.underlying31 Tryz.underlying5 Tryz.underlying9; clear hz; go_simp; try with_reducible rfl)
          (try simp only [Act.put, List.setIfInBounds_toArray, List.set_cons_zero, List.set_cons_succ])
          refine PlanT.take0 (v := ?vU7) (by kernel_rfl) ?yU7 ?rU7
          case yU7 => (intro wz hz; have k1 := (hz.cell (p := ⟨bd, 0, none⟩) HN6.out.1).trans HBD6.out; have k2 := (hz.cell (p := ⟨bn, 0, none⟩) HN6.out.2.1).trans HBN6.out; have k3 := (hz.cell (p := ⟨p, 0, none⟩) HN6.out.2.2.2).trans HC6.out; have k4 := (hz.cell (p := ⟨bb, 0, none⟩) HN6.out.2.2.1).trans HBB6.out; have hcv := rdB_convert (rdB_kept HRD6.out hz HBK6.out) 31 5 9 Tryz.underlying31 Tryz.underlying5 Tryz.underlying9; clear hz; go_simp; try with_reducible rfl)
          (try simp only [Act.put, List.setIfInBounds_toArray, List.set_cons_zero, List.set_cons_succ])
          refine PlanT.take0 (v := ?vU8) (by kernel_rfl) ?yU8 ?rU8
          case yU8 => (intro wz hz; have k1 := (hz.cell (p := ⟨bd, 0, none⟩) HN6.out.1).trans HBD6.out; have k2 := (hz.cell (p := ⟨bn, 0, none⟩) HN6.out.2.1).trans HBN6.out; have k3 := (hz.cell (p := ⟨p, 0, none⟩) HN6.out.2.2.2).trans HC6.out; have k4 := (hz.cell (p := ⟨bb, 0, none⟩) HN6.out.2.2.1).trans HBB6.out; have hcv := rdB_convert (rdB_kept HRD6.out hz HBK6.out) 31 5 9 Tryz.underlying31 Tryz.underlying5 Tryz.underlying9; clear hz; go_simp; try with_reducible rfl)
          (try simp only [Act.put, List.setIfInBounds_toArray, List.set_cons_zero, List.set_cons_succ])
          refine PlanT.exec2 (fun K hK => ⟨by kernel_rfl, ?_⟩)
          go_simp
          (refine (sclone_any (strB n) w6 HNS.out).mono ?_)
          rintro e w7 ⟨rfl, hb7⟩
          have hk7 : Kept (fun k => k < w6.heap.size ∧ mb ≠ k) w6 w7 := Kept.of hb7 fun _ h => h.1
          have ho7 := HOM6.out.kept (Kept.of hb7 (R := fun k => k < w6.heap.size) fun _ h => h) HOM6.out.lt
          refine hK.out _ _ hk7 hk7 ?_
          clear hK K
          (try simp only [Act.put, List.setIfInBounds_toArray, List.set_cons_zero, List.set_cons_succ])
          refine PlanT.exec2 (fun K hK => ⟨by kernel_rfl, ?_⟩)
          refine wp_om_put (.tmp 34) (.tmp 36) (.tmp 39) 43 rfl (.map (some mb)) f.objs n b rfl rfl rfl rfl HNL.out ⟨_, rfl⟩ ho7 HOL.out HBL.out ?_
          intro w8 ho8 hg8 hs8
          have hk8 : Kept (fun k => k < w6.heap.size ∧ mb ≠ k) w6 w8 := hk7.grown hg8 (fun k hk => Nat.lt_of_lt_of_le hk.1 hk7.size) (fun k hk hk2 => by cases hk; exact hk2.2 rfl)
          refine hK.out _ _ hk8 hk8 ?_
          clear hK K
          (try simp only [Act.put, List.setIfInBounds_toArray, List.set_cons_zero, List.set_cons_succ])
          refine PlanT.done (NoPanic.normal ?_)
          go_wp2
          go_ret
          have hp8 := (hk8.block p HN6.out.2.2.2).trans HP6.out
          exact ⟨rfl, H.out.mapped HP.out HMV.out hp8 ((Kept.mono HK6.out fun k hk => ⟨hk.1, hk.2.1⟩).trans (Kept.mono hk8 fun k hk => ⟨Nat.lt_of_lt_of_le hk.1 HK6.out.size, fun e => by have := HMB.out; omega⟩)) ho8 (.inr HMB.out)⟩
end Go.Proofs.YtljjgpjaleekdaaGreatDoor
