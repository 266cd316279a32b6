/-
  append and copy onto slices of the call's own or of an object's, with the word on where the new slice lies.
-/
import Derived.Test.YtmlijnekidihbaaDiskFile
import Derived.Maps.AppendAt
import Derived.Laws.CopyRow
namespace Go.Proofs.Ytmlijnekidihbaa
open Go.RowKit

section
variable {P : Program} {w : World} {ops : Array Oper} {o : Oper} {a : Act} {K : Act → World → Prop} {Q : Exit → Act → World → Prop}

/-- 'append(b, s...)' of a string's bytes. -/
theorem wp_append_str (s x : Operand) (t u : TypeId) (hop : o.op = Op.call { callee := Callee.builtin Builtin.append, args := #[s, x], argTypes := #[t, u] })
    (e : Nat) (h1 : P.underlying t = some (.slice e)) (hu : P.underlying u = some .string) (h2 : (P.info? e).map (fun i => (i.zero, i.size, i.bytes)) = some (some (.int .u8 0), 1, 1))
    (v : Value) (l r : List UInt8) (hs : a.eval s = v) (hx : a.eval x = .string (strB r)) (hown : OwnB w 0 e v l)
    (hl : l.length + r.length ≤ 140737488355328)
    (hK : ∀ v' w', OwnB w' 0 e v' (l ++ r) → Moves w w' v v' → K (a.put o.dst v') w') : Oper.wp P o a w K Q := by
  obtain ⟨i0, hi, hz0, hz1, hz2⟩ := info_parts h2
  have hsz := strB_size r
  have hc : Lib.strCells (strB r) = r.map bv := rfl
  obtain ⟨v', w', hr, r2, r3, r4⟩ := Lib.run_append_own_string (P := P) w 0 t u o.type e i0 h1 hu hi hz0 hz1 hz2 v l.length (l.map bv) hown (strB r) (by rw [hsz]; unfold maxLen; omega) (by rw [hsz]; exact hl) (Nat.zero_le _)
  have hown' : OwnB w' 0 e v' (l ++ r) := by
    unfold OwnB
    rw [List.length_append, List.map_append, ← hc, ← hsz]
    exact r2
  have hat : ∀ k, v'.ownBlock = some k → v.ownBlock = some k ∨ (w.heap.size ≤ k ∧ k < w'.heap.size) := by
    intro k hk
    have hlt := own_lt r2 k hk
    rcases hown.2 with ⟨rfl, h0⟩ | ⟨g, cap, cur, rfl, _, hg, hn, hm, hcs, htake⟩
    · have hl0 : l = [] := List.eq_nil_of_length_eq_zero h0
      subst hl0
      by_cases hr0 : (strB r).size = 0
      · have : v' = .slice none 0 0 := r4.2 ⟨rfl, hr0⟩
        subst this
        cases hk
      · have hr' := run_append_nil_string (P := P) w t u o.type e i0 (.int .u8 0) h1 hu hi hz0 (strB r) (by omega) (by rw [hsz]; simp at hl; omega) (by rw [hz2, hsz]; simp at hl; omega)
        rw [hr] at hr'
        injection hr' with e1 e2
        rw [e1] at hk
        cases hk
        exact .inr ⟨Nat.le_refl _, hlt⟩
    · by_cases hroom : l.length + (strB r).size ≤ cap
      · have hr' := Lib.run_append_room_string (P := P) w t u o.type e i0 h1 hu hi hz1 g l.length cap cur hg (strB r) hroom (by omega)
        rw [hr] at hr'
        injection hr' with e1 e2
        rw [e1] at hk
        exact .inl hk
      · have holds : ∀ j u, (l.map bv)[j]? = some u → w.cell? ((⟨g, 0, none⟩ : Addr).add j) = some u := World.ownsRow.cells (g := g) hown rfl
        have hr' := Lib.run_append_grow_string (P := P) w t u o.type e i0 (.int .u8 0) h1 hu hi hz0 ⟨g, 0, none⟩ l.length cap (l.map bv) (by rw [hz1]; simp) holds (strB r) (by omega) (by rw [hsz]; omega) (by rw [hz2, hsz]; exact growslice_fits (by omega) (by omega))
        rw [hr] at hr'
        injection hr' with e1 e2
        rw [e1] at hk
        cases hk
        exact .inr ⟨Nat.le_refl _, hlt⟩
  unfold Oper.wp execOp
  simp only [hop, resolve, invoke, builtin, Sem.run_bind, Sem.run_pure, Result.andThen_ok, List.map_toArray, List.map_cons, List.map_nil, hs, hx, hr]
  exact hK _ _ hown' ⟨r3, hat⟩

/-- 'copy(b[at:], s)' of a string's bytes into a slice that is owned. -/
theorem wp_copy_str (d s : Operand) (dT sT : TypeId) (hop : o.op = Op.call { callee := Callee.builtin Builtin.copy, args := #[d, s], argTypes := #[dT, sT] })
    (e : Nat) (h1 : P.underlying dT = some (.slice e)) (h2 : (P.info? e).map (fun i => (i.zero, i.size, i.bytes)) = some (some (.int .u8 0), 1, 1))
    (v : Value) (l p : List UInt8) (hown : OwnB w 0 e v l) (dp : Option Addr) (at_ dCap : Nat) (hd : a.eval d = .slice dp (l.length - at_) dCap) (hs : a.eval s = .string (strB p)) (hat : at_ ≤ l.length)
    (hdp : ∀ g, at_ < l.length → v.ownBlock = some g → dp = some ⟨g, at_, none⟩) (n : Nat) (hn : n = min p.length (l.length - at_))
    (hK : ∀ w', OwnB w' 0 e v (wr l at_ (p.take (l.length - at_))) → Moves w w' v v → w'.heap.size = w.heap.size → K (a.put o.dst (.int .i64 (n : Int))) w') : Oper.wp P o a w K Q := by
  obtain ⟨i0, hi, hz0, hz1, hz2⟩ := info_parts h2
  have hsz := strB_size p
  have htk : p.take n = p.take (l.length - at_) := by
    rw [hn]
    by_cases h : p.length ≤ l.length - at_
    · rw [Nat.min_eq_left h, List.take_length, List.take_of_length_le h]
    · rw [Nat.min_eq_right (by omega)]
  have hex : (Builtin.firstCells 1 n (.string (strB p))).run P w = .ok ((p.take (l.length - at_)).map bv).toArray w := by
    rw [← htk]
    simp [Builtin.firstCells]
  by_cases h0 : n = 0
  · have hw : wr l at_ (p.take (l.length - at_)) = l := by
      have : p.take (l.length - at_) = [] := by
        apply List.eq_nil_of_length_eq_zero
        rw [List.length_take]; omega
      rw [this, wr_nil]
    have hnm : Nat.min p.length (l.length - at_) = n := hn.symm
    have hrun : (Builtin.copy_ #[dT, sT] o.type #[.slice dp (l.length - at_) dCap, .string (strB p)]).run P w = .ok (goInt n) w := by
      have hl : ((p.take (l.length - at_)).map bv) = [] := by
        have : p.take (l.length - at_) = [] := by
          apply List.eq_nil_of_length_eq_zero
          rw [List.length_take]; omega
        rw [this]; rfl
      rw [hl] at hex
      cases dp <;> simp [Builtin.copy_, run_underlying h1, Builtin.lenOf, sizeOf, typeInfo, hi, hz1, hsz, hnm, hex, storeCells]
    unfold Oper.wp execOp
    simp only [hop, resolve, invoke, builtin, Sem.run_bind, Sem.run_pure, Result.andThen_ok, List.map_toArray, List.map_cons, List.map_nil, hd, hs, hrun]
    exact hK w (by rw [hw]; exact hown) (Moves.refl _ _) rfl
  · have hlt : at_ < l.length := by omega
    obtain ⟨g, cap, cur, rfl, hnc, hcm, hg, hcell, hfree⟩ := own_form hown (by omega)
    obtain rfl := hdp g hlt rfl
    have hcur : cur.size = cap ∧ cur.toList.take l.length = l.map bv := by
      rcases hown.2 with ⟨h, _⟩ | ⟨g', cap', cur', hv, _, hg', _, _, hcs, htake⟩
      · cases h
      · cases hv
        rw [hg] at hg'
        cases hg'
        exact ⟨by simpa using hcs, by simpa using htake⟩
    have hnm : Nat.min p.length (l.length - at_) = n := hn.symm
    have hlen : ((p.take (l.length - at_)).map bv).length = n := by rw [List.length_map, List.length_take]; omega
    have hst := run_storeCells_at P g at_ e ((p.take (l.length - at_)).map bv) 0 cur w hg (by rw [hlen]; omega) (bv_oneCell _)
    rw [hlen, Nat.add_zero] at hst
    have hrun : (Builtin.copy_ #[dT, sT] o.type #[.slice (some ⟨g, at_, none⟩) (l.length - at_) dCap, .string (strB p)]).run P w = .ok (goInt n) (w.setRow g (cur.toList.take at_ ++ (p.take (l.length - at_)).map bv ++ cur.toList.drop (at_ + n)).toArray) := by
      simp [Builtin.copy_, run_underlying h1, Builtin.lenOf, sizeOf, typeInfo, hi, hz1, hsz, hnm, hex]
      simp at hst
      simp [hst]
    unfold Oper.wp execOp
    simp only [hop, resolve, invoke, builtin, Sem.run_bind, Sem.run_pure, Result.andThen_ok, List.map_toArray, List.map_cons, List.map_nil, hd, hs, hrun]
    have hwl : (wr l at_ (p.take (l.length - at_))).length = l.length := by
      rw [wr_length _ _ _ (by omega), List.length_take]
      omega
    have := hK (w.setRow g (cur.toList.take at_ ++ (p.take (l.length - at_)).map bv ++ cur.toList.drop (at_ + n)).toArray) ?_ ⟨⟨rfl, rfl, rfl, by simp [World.setRow], fun k _ hk => setRow_other w g k _ (fun e => hk (by simp [Value.ownBlock, e]))⟩, fun k hk => .inl hk⟩ (by simp [World.setRow])
    · exact this
    · unfold OwnB
      rw [hwl]
      refine ⟨by simp [hwl], .inr ⟨g, cap, _, rfl, Nat.zero_le _, setRow_heap w g cur _ e _ hg, hnc, hcm, ?_, ?_⟩⟩
      · simp only [List.size_toArray, List.length_append, List.length_take, List.length_drop, Array.length_toList, List.length_map]
        omega
      · have e1 : l.length * 1 = l.length := Nat.mul_one _
        rw [e1]
        obtain ⟨hcs, htake⟩ := hcur
        have hq : (p.take (l.length - at_)).length = n := by simpa using hlen
        generalize p.take (l.length - at_) = q at *
        have hA : cur.toList.take at_ = (l.map bv).take at_ := by rw [← htake, List.take_take, Nat.min_eq_left (by omega)]
        have hD : (cur.toList.drop (at_ + n)).take (l.length - (at_ + n)) = (l.map bv).drop (at_ + n) := by rw [← htake, List.drop_take]
        have hal : (cur.toList.take at_ ++ q.map bv).length = at_ + n := by
          rw [hA, List.length_append, List.length_take, List.length_map, List.length_map, hq]
          omega
        show (cur.toList.take at_ ++ q.map bv ++ cur.toList.drop (at_ + n)).take l.length = _
        rw [List.take_append, hal, List.take_of_length_le (by rw [hal]; omega), hD, hA]
        unfold wr
        rw [hq, List.map_append, List.map_append, List.map_take, List.map_drop]
end
end Go.Proofs.Ytmlijnekidihbaa
