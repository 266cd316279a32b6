/-
  A change of names, done to the names as they are (what 'rename' of a disk does).
-/
import Derived.Test.YtmlijnekidihbaaDiskSettle
namespace Go.Proofs.Ytmlijnekidihbaa
open Go.RowKit

theorem own_exact {w : World} {b n : Nat} {l : DB} (h : w.ownsMap Try.prog 9 (plainElem Try.prog 3) b n (mapD l)) : w.ownsMap Try.prog 9 (plainElem Try.prog 3) b l.length (mapD l) := by
  obtain ⟨es, clock, hb, F, hs, hD⟩ := h
  refine ⟨es, clock, hb, F, ?_, hD⟩
  have := congrArg Maps.size hD
  rw [mapD_size] at this
  simp [Maps.size, length_sorted] at this
  omega

section
variable {w : World} {o : Oper} {a : Act} {K : Act → World → Prop} {Q : Exit → Act → World → Prop}

/-- 'm[n] = id'. -/
theorem wp_nm_put (m x v : Operand) (t : TypeId) (hop : o.op = Op.mapUpdate t m x v) (nv : Value) (l : DB) (n : List UInt8) (id : Nat) (ht : t = 57) (hm : a.eval m = nv) (hx : a.eval x = .string (strB n)) (hv : a.eval v = .int .i64 (id : Int)) (hn : (strB n).size ≤ maxLen)
    (hnn : ∃ b, nv = .map (some b)) (h : Nm w nv l) (hl : l.length < maxLen) (hK : ∀ w', Nm w' nv (dwith l n id) → w.grownBy w' (mapBlock nv) → w'.heap.size = w.heap.size → K (a.put o.dst undef) w') (hid : id < 1000000000000000000) : Oper.wp Try.prog o a w K Q := by
  obtain ⟨b, rfl⟩ := hnn
  rcases h with ⟨h, _⟩ | ⟨b', hb, hown⟩
  · cases h
  · cases hb
    subst ht
    have hwf : (Lit.int .i64 (id : Int)).wf = true := WalkArith.wf_i64 (by omega)
    obtain ⟨w', hrun, r1, r2⟩ := hown.store (t := 57) (Maps.string_keyed Try.underlying9) Try.underlying57 hl (name_key (strB n) hn) (plainElem_int Try.underlying3 hwf)
    unfold Oper.wp
    simp [execOp, hop, hm, hx, hv, hrun, Result.andThen]
    have e1 : (strB n).data.toList = n := rfl
    rw [e1, mapD_put] at r1
    refine hK w' (.inr ⟨b, rfl, own_exact r1⟩) r2.grown ?_
    obtain ⟨es, clock, es', clock', hb, rfl⟩ := r2
    simp [ChangeMaps.setBlock]

/-- 'delete(m, n)'. -/
theorem wp_nm_del (m x : Operand) (t k : TypeId) (hop : o.op = Op.call { callee := Callee.builtin Builtin.delete, args := #[m, x], argTypes := #[t, k] }) (nv : Value) (l : DB) (n : List UInt8) (ht : t = 57) (hk : k = 9) (hm : a.eval m = nv) (hx : a.eval x = .string (strB n)) (hn : (strB n).size ≤ maxLen)
    (h : Nm w nv l) (hK : ∀ w', Nm w' nv (dwithout l n) → w.grownBy w' (mapBlock nv) → w'.heap.size = w.heap.size → K (a.put o.dst (.tuple #[])) w') : Oper.wp Try.prog o a w K Q := by
  subst ht; subst hk
  rcases h with ⟨rfl, rfl⟩ | ⟨b, rfl, hown⟩
  · have hrun := Maps.drop_nil (P := Try.prog) (w := w) (t := 57) (k := 9) (e := 3) (Maps.string_keyed Try.underlying9) Try.underlying57 (name_key (strB n) hn) o.type
    unfold Oper.wp
    simp [execOp, hop, resolve, invoke, builtin, hm, hx, hrun, Result.andThen]
    exact hK w (.inl ⟨rfl, rfl⟩) ⟨rfl, rfl, rfl, Nat.le_refl _, fun _ _ _ => rfl⟩ rfl
  · obtain ⟨w', hrun, r1, r2⟩ := hown.drop (t := 57) (Maps.string_keyed Try.underlying9) Try.underlying57 (name_key (strB n) hn) o.type
    unfold Oper.wp
    simp [execOp, hop, resolve, invoke, builtin, hm, hx, hrun, Result.andThen]
    have e1 : (strB n).data.toList = n := rfl
    rw [e1, mapD_del] at r1
    refine hK w' (.inr ⟨b, rfl, own_exact r1⟩) r2.grown ?_
    obtain ⟨es, clock, es', clock', hb, rfl⟩ := r2
    simp [ChangeMaps.setBlock]
end

theorem eql_some (b : Nat) (w : World) : (binOp .eql 57 (.map (some b)) (.map none)).run Try.prog w = .ok (.bool false) w := by kernel_rfl
theorem eql_nil (w : World) : (binOp .eql 57 (.map none) (.map none)).run Try.prog w = .ok (.bool true) w := by kernel_rfl

/-- Names with a change done. -/
def ren (l : DB) (c : PC) : DB :=
  if c.kind = 0 then dwith l c.dst c.file
  else if c.kind = 1 then (match dfind l c.src with | none => l | some id => dwith (dwithout l c.src) c.dst id)
  else dwithout l c.src

/-- What a change of names leaves. -/
def Renamed (w w' : World) (p : Nat) (c0 c1 c2 c3 c4 c5 nv c7 c8 : Value) (l : DB) : Prop := ∃ nv', w'.heap[p]? = some (.cells #[c0, c1, c2, c3, c4, c5, nv', c7, c8] 60 (0, 0)) ∧ Nm w' nv' l ∧
      Kept (fun k => k < w.heap.size ∧ k ≠ p ∧ mapBlock nv ≠ some k) w w' ∧ (∀ k, mapBlock nv' = some k → mapBlock nv = some k ∨ (w.heap.size ≤ k ∧ k < w'.heap.size))

theorem grown_renamed {w w1 w2 : World} {p : Nat} {c0 c1 c2 c3 c4 c5 nv c7 c8 : Value} {l : DB} (hb : Below w.heap.size w w1) (hg : w1.grownBy w2 (mapBlock nv)) (hp : w2.heap[p]? = some (.cells #[c0, c1, c2, c3, c4, c5, nv, c7, c8] 60 (0, 0))) (hn : Nm w2 nv l) :
    Renamed w w2 p c0 c1 c2 c3 c4 c5 nv c7 c8 l :=
  ⟨nv, hp, hn, ⟨hg.os.trans hb.os, hg.tape.trans hb.tape, hg.output.trans hb.output, Nat.le_trans hb.size hg.size, fun _ hk => (hg.block _ (Nat.lt_of_lt_of_le hk.1 hb.size) (fun e => hk.2.2 e.symm)).trans (hb.block _ hk.1)⟩, fun _ hk => .inl hk⟩

set_option maxRecDepth 100000 in
set_option maxHeartbeats 4000000 in
set_option linter.unusedSimpArgs false in
set_option linter.unusedVariables false in
theorem rename_gone (w : World) (p : Nat) (c0 c1 c2 c3 c4 c5 nv c7 c8 : Value) (src dst : List UInt8) (file : Nat) (l : DB) (h : w.heap[p]? = some (.cells #[c0, c1, c2, c3, c4, c5, nv, c7, c8] 60 (0, 0))) (hn : Nm w nv l) (hpn : mapBlock nv ≠ some p)
    (hm : l.length < 1000000000000) (hs : src.length < 1000000000) (hd : dst.length < 1000000000) (hf : file < 1000000000000) :
    Calls Try.prog 32 #[.pointer (some ⟨p, 0, none⟩), .agg #[.int .i64 2, .string (strB src), .string (strB dst), .int .i64 (file : Int)]] w fun e w' => e = .returned (.tuple #[]) ∧ Renamed w w' p c0 c1 c2 c3 c4 c5 nv c7 c8 (dwithout l src) := by
  have hp := blk_lt h
  have hne : ¬ w.heap.size = p := by omega
  have hne' : ¬ p = w.heap.size := by omega
  have hBn : mapBlock nv ≠ some w.heap.size := fun e => by have := hn.lt _ e; omega
  have hss := strB_size src
  have hsd := strB_size dst
  obtain ⟨w1, hw1⟩ : ∃ w1, w1 = (w.alloc (.cells #[.int .i64 2, .string (strB src), .string (strB dst), .int .i64 (file : Int)] 72)).drew := ⟨_, rfl⟩
  have hx : w1.heap[w.heap.size]? = some (.cells #[.int .i64 2, .string (strB src), .string (strB dst), .int .i64 (file : Int)] 72) := by
    subst hw1
    exact heap_alloc_new w _
  have h1 : w1.heap[p]? = some (.cells #[c0, c1, c2, c3, c4, c5, nv, c7, c8] 60 (0, 0)) := by
    subst hw1
    exact (Below.heap_alloc _ _ _ hp).trans h
  have hbel : Below w.heap.size w w1 := by
    subst hw1
    exact ((Below.refl _ _).alloc (Nat.le_refl _) _).drew
  have hn1 : Nm w1 nv l := hn.kept (Kept.of hbel (R := fun k => k < w.heap.size) fun _ h => h) fun k hk => hn.lt k hk
  have Hw1 := Lib.hid hw1
  clear hw1
  go_enter Try.func32, Try.ntmps32
  go_wp2
  refine wp_region_two (fun wz => wz.heap[p]? = some (.cells #[c0, c1, c2, c3, c4, c5, nv, c7, c8] 60 (0, 0)) ∧ wz.heap[w.heap.size]? = some (.cells #[.int .i64 2, .string (strB src), .string (strB dst), .int .i64 (file : Int)] 72 (0, 0))) (fun wz => wz.heap[p]? = some (.cells #[c0, c1, c2, c3, c4, c5, nv, c7, c8] 60 (0, 0)) ∧ wz.heap[w.heap.size]? = some (.cells #[.int .i64 2, .string (strB src), .string (strB dst), .int .i64 (file : Int)] 72 (0, 0))) [(0, 0), (0, 1), (0, 2), (0, 3), (0, 4), (0, 5), (2, 6)] [] (by kernel_rfl) (by kernel_rfl) (by kernel_rfl) (by kernel_rfl) (by kernel_rfl) (by rw [← Hw1.out]; exact ⟨h1, hx⟩) (by rw [← Hw1.out]; exact ⟨h1, hx⟩) ?_
  simp only [planT, List.drop_succ_cons, List.drop_zero]
  rw [← Hw1.out]
  refine PlanT.take0 (v := ?vG0) (by kernel_rfl) ?yG0 ?rG0
  case yG0 => (intro wz hz; obtain ⟨z1, z2⟩ := hz; have q6 : wz.cell? ⟨p, 6, none⟩ = some (nv) := blk_cell z1; have b1 : wz.cell? ⟨w.heap.size, 1, none⟩ = some (.string (strB src)) := blk_cell z2; have b2 : wz.cell? ⟨w.heap.size, 2, none⟩ = some (.string (strB dst)) := blk_cell z2; have b3 : wz.cell? ⟨w.heap.size, 3, none⟩ = some (.int .i64 (file : Int)) := blk_cell z2; clear z1 z2; go_simp; try with_reducible rfl)
  (try simp only [Act.put, List.setIfInBounds_toArray, List.set_cons_zero, List.set_cons_succ])
  refine PlanT.take0 (v := ?vG1) (by kernel_rfl) ?yG1 ?rG1
  case yG1 => (intro wz hz; obtain ⟨z1, z2⟩ := hz; have q6 : wz.cell? ⟨p, 6, none⟩ = some (nv) := blk_cell z1; have b1 : wz.cell? ⟨w.heap.size, 1, none⟩ = some (.string (strB src)) := blk_cell z2; have b2 : wz.cell? ⟨w.heap.size, 2, none⟩ = some (.string (strB dst)) := blk_cell z2; have b3 : wz.cell? ⟨w.heap.size, 3, none⟩ = some (.int .i64 (file : Int)) := blk_cell z2; clear z1 z2; go_simp; try with_reducible rfl)
  (try simp only [Act.put, List.setIfInBounds_toArray, List.set_cons_zero, List.set_cons_succ])
  refine PlanT.take0 (v := ?vG2) (by kernel_rfl) ?yG2 ?rG2
  case yG2 => (intro wz hz; obtain ⟨z1, z2⟩ := hz; have q6 : wz.cell? ⟨p, 6, none⟩ = some (nv) := blk_cell z1; have b1 : wz.cell? ⟨w.heap.size, 1, none⟩ = some (.string (strB src)) := blk_cell z2; have b2 : wz.cell? ⟨w.heap.size, 2, none⟩ = some (.string (strB dst)) := blk_cell z2; have b3 : wz.cell? ⟨w.heap.size, 3, none⟩ = some (.int .i64 (file : Int)) := blk_cell z2; clear z1 z2; go_simp; try with_reducible rfl)
  (try simp only [Act.put, List.setIfInBounds_toArray, List.set_cons_zero, List.set_cons_succ])
  refine PlanT.take0 (v := ?vG3) (by kernel_rfl) ?yG3 ?rG3
  case yG3 => (intro wz hz; obtain ⟨z1, z2⟩ := hz; have q6 : wz.cell? ⟨p, 6, none⟩ = some (nv) := blk_cell z1; have b1 : wz.cell? ⟨w.heap.size, 1, none⟩ = some (.string (strB src)) := blk_cell z2; have b2 : wz.cell? ⟨w.heap.size, 2, none⟩ = some (.string (strB dst)) := blk_cell z2; have b3 : wz.cell? ⟨w.heap.size, 3, none⟩ = some (.int .i64 (file : Int)) := blk_cell z2; clear z1 z2; go_simp; try with_reducible rfl)
  (try simp only [Act.put, List.setIfInBounds_toArray, List.set_cons_zero, List.set_cons_succ])
  refine PlanT.take0 (v := ?vG4) (by kernel_rfl) ?yG4 ?rG4
  case yG4 => (intro wz hz; obtain ⟨z1, z2⟩ := hz; have q6 : wz.cell? ⟨p, 6, none⟩ = some (nv) := blk_cell z1; have b1 : wz.cell? ⟨w.heap.size, 1, none⟩ = some (.string (strB src)) := blk_cell z2; have b2 : wz.cell? ⟨w.heap.size, 2, none⟩ = some (.string (strB dst)) := blk_cell z2; have b3 : wz.cell? ⟨w.heap.size, 3, none⟩ = some (.int .i64 (file : Int)) := blk_cell z2; clear z1 z2; go_simp; try with_reducible rfl)
  (try simp only [Act.put, List.setIfInBounds_toArray, List.set_cons_zero, List.set_cons_succ])
  refine PlanT.take0 (v := ?vG5) (by kernel_rfl) ?yG5 ?rG5
  case yG5 => (intro wz hz; obtain ⟨z1, z2⟩ := hz; have q6 : wz.cell? ⟨p, 6, none⟩ = some (nv) := blk_cell z1; have b1 : wz.cell? ⟨w.heap.size, 1, none⟩ = some (.string (strB src)) := blk_cell z2; have b2 : wz.cell? ⟨w.heap.size, 2, none⟩ = some (.string (strB dst)) := blk_cell z2; have b3 : wz.cell? ⟨w.heap.size, 3, none⟩ = some (.int .i64 (file : Int)) := blk_cell z2; clear z1 z2; go_simp; try with_reducible rfl)
  (try simp only [Act.put, List.setIfInBounds_toArray, List.set_cons_zero, List.set_cons_succ])
  refine PlanT.exec2 (fun K hK => ⟨by kernel_rfl, ?_⟩)
  refine wp_nm_del (.tmp 58) (.tmp 60) 57 9 rfl (nv) l (src) rfl rfl rfl rfl (by rw [strB_size]; unfold maxLen; omega) hn1 ?_
  intro w2 hnG hgG hzG
  have hpG := (hgG.block p (blk_lt h1) (fun e => hpn e.symm)).trans h1
  have hxG := (hgG.block w.heap.size (blk_lt hx) (fun e => hBn e.symm)).trans hx
  refine hK.out _ _ ⟨hpG, hxG⟩ ⟨hpG, hxG⟩ ?_
  clear hK K
  (try simp only [Act.put, List.setIfInBounds_toArray, List.set_cons_zero, List.set_cons_succ])
  refine PlanT.done (NoPanic.normal ?_)
  go_wp2
  go_end0
  exact ⟨rfl, grown_renamed hbel hgG hpG hnG⟩

set_option maxRecDepth 100000 in
set_option maxHeartbeats 4000000 in
set_option linter.unusedSimpArgs false in
set_option linter.unusedVariables false in
theorem rename_made_own (w : World) (p : Nat) (c0 c1 c2 c3 c4 c5 nv c7 c8 : Value) (src dst : List UInt8) (file : Nat) (l : DB) (h : w.heap[p]? = some (.cells #[c0, c1, c2, c3, c4, c5, nv, c7, c8] 60 (0, 0))) (hn : Nm w nv l) (hpn : mapBlock nv ≠ some p)
    (hm : l.length < 1000000000000) (hs : src.length < 1000000000) (hd : dst.length < 1000000000) (hf : file < 1000000000000) (hnn : ∃ b, nv = .map (some b)) :
    Calls Try.prog 32 #[.pointer (some ⟨p, 0, none⟩), .agg #[.int .i64 0, .string (strB src), .string (strB dst), .int .i64 (file : Int)]] w fun e w' => e = .returned (.tuple #[]) ∧ Renamed w w' p c0 c1 c2 c3 c4 c5 nv c7 c8 (dwith l dst file) := by
  obtain ⟨b, rfl⟩ := hnn
  have hp := blk_lt h
  have hne : ¬ w.heap.size = p := by omega
  have hne' : ¬ p = w.heap.size := by omega
  have hBn : mapBlock (.map (some b)) ≠ some w.heap.size := fun e => by have := hn.lt _ e; omega
  have hss := strB_size src
  have hsd := strB_size dst
  obtain ⟨w1, hw1⟩ : ∃ w1, w1 = (w.alloc (.cells #[.int .i64 0, .string (strB src), .string (strB dst), .int .i64 (file : Int)] 72)).drew := ⟨_, rfl⟩
  have hx : w1.heap[w.heap.size]? = some (.cells #[.int .i64 0, .string (strB src), .string (strB dst), .int .i64 (file : Int)] 72) := by
    subst hw1
    exact heap_alloc_new w _
  have h1 : w1.heap[p]? = some (.cells #[c0, c1, c2, c3, c4, c5, .map (some b), c7, c8] 60 (0, 0)) := by
    subst hw1
    exact (Below.heap_alloc _ _ _ hp).trans h
  have hbel : Below w.heap.size w w1 := by
    subst hw1
    exact ((Below.refl _ _).alloc (Nat.le_refl _) _).drew
  have hn1 : Nm w1 (.map (some b)) l := hn.kept (Kept.of hbel (R := fun k => k < w.heap.size) fun _ h => h) fun k hk => hn.lt k hk
  have Hw1 := Lib.hid hw1
  clear hw1
  have d6 : w1.cell? ⟨p, 6, none⟩ = some (.map (some b)) := blk_cell h1
  have d6' : w.cell? ⟨p, 6, none⟩ = some (.map (some b)) := blk_cell h
  have hq := eql_some b
  go_enter Try.func32, Try.ntmps32
  go_wp2
  refine wp_region_two (fun wz => wz.heap[p]? = some (.cells #[c0, c1, c2, c3, c4, c5, .map (some b), c7, c8] 60 (0, 0)) ∧ wz.heap[w.heap.size]? = some (.cells #[.int .i64 0, .string (strB src), .string (strB dst), .int .i64 (file : Int)] 72 (0, 0))) (fun wz => wz.heap[p]? = some (.cells #[c0, c1, c2, c3, c4, c5, .map (some b), c7, c8] 60 (0, 0)) ∧ wz.heap[w.heap.size]? = some (.cells #[.int .i64 0, .string (strB src), .string (strB dst), .int .i64 (file : Int)] 72 (0, 0))) [(0, 0), (0, 1), (0, 2), (0, 3), (0, 4), (0, 5), (0, 6), (0, 7), (2, 8)] [] (by kernel_rfl) (by kernel_rfl) (by kernel_rfl) (by kernel_rfl) (by kernel_rfl) (by rw [← Hw1.out]; exact ⟨h1, hx⟩) (by rw [← Hw1.out]; exact ⟨h1, hx⟩) ?_
  simp only [planT, List.drop_succ_cons, List.drop_zero]
  rw [← Hw1.out]
  refine PlanT.take0 (v := ?vM0) (by kernel_rfl) ?yM0 ?rM0
  case yM0 => (intro wz hz; obtain ⟨z1, z2⟩ := hz; have q6 : wz.cell? ⟨p, 6, none⟩ = some (.map (some b)) := blk_cell z1; have b1 : wz.cell? ⟨w.heap.size, 1, none⟩ = some (.string (strB src)) := blk_cell z2; have b2 : wz.cell? ⟨w.heap.size, 2, none⟩ = some (.string (strB dst)) := blk_cell z2; have b3 : wz.cell? ⟨w.heap.size, 3, none⟩ = some (.int .i64 (file : Int)) := blk_cell z2; clear z1 z2; go_simp; try with_reducible rfl)
  (try simp only [Act.put, List.setIfInBounds_toArray, List.set_cons_zero, List.set_cons_succ])
  refine PlanT.take0 (v := ?vM1) (by kernel_rfl) ?yM1 ?rM1
  case yM1 => (intro wz hz; obtain ⟨z1, z2⟩ := hz; have q6 : wz.cell? ⟨p, 6, none⟩ = some (.map (some b)) := blk_cell z1; have b1 : wz.cell? ⟨w.heap.size, 1, none⟩ = some (.string (strB src)) := blk_cell z2; have b2 : wz.cell? ⟨w.heap.size, 2, none⟩ = some (.string (strB dst)) := blk_cell z2; have b3 : wz.cell? ⟨w.heap.size, 3, none⟩ = some (.int .i64 (file : Int)) := blk_cell z2; clear z1 z2; go_simp; try with_reducible rfl)
  (try simp only [Act.put, List.setIfInBounds_toArray, List.set_cons_zero, List.set_cons_succ])
  refine PlanT.take0 (v := ?vM2) (by kernel_rfl) ?yM2 ?rM2
  case yM2 => (intro wz hz; obtain ⟨z1, z2⟩ := hz; have q6 : wz.cell? ⟨p, 6, none⟩ = some (.map (some b)) := blk_cell z1; have b1 : wz.cell? ⟨w.heap.size, 1, none⟩ = some (.string (strB src)) := blk_cell z2; have b2 : wz.cell? ⟨w.heap.size, 2, none⟩ = some (.string (strB dst)) := blk_cell z2; have b3 : wz.cell? ⟨w.heap.size, 3, none⟩ = some (.int .i64 (file : Int)) := blk_cell z2; clear z1 z2; go_simp; try with_reducible rfl)
  (try simp only [Act.put, List.setIfInBounds_toArray, List.set_cons_zero, List.set_cons_succ])
  refine PlanT.take0 (v := ?vM3) (by kernel_rfl) ?yM3 ?rM3
  case yM3 => (intro wz hz; obtain ⟨z1, z2⟩ := hz; have q6 : wz.cell? ⟨p, 6, none⟩ = some (.map (some b)) := blk_cell z1; have b1 : wz.cell? ⟨w.heap.size, 1, none⟩ = some (.string (strB src)) := blk_cell z2; have b2 : wz.cell? ⟨w.heap.size, 2, none⟩ = some (.string (strB dst)) := blk_cell z2; have b3 : wz.cell? ⟨w.heap.size, 3, none⟩ = some (.int .i64 (file : Int)) := blk_cell z2; clear z1 z2; go_simp; try with_reducible rfl)
  (try simp only [Act.put, List.setIfInBounds_toArray, List.set_cons_zero, List.set_cons_succ])
  refine PlanT.take0 (v := ?vM4) (by kernel_rfl) ?yM4 ?rM4
  case yM4 => (intro wz hz; obtain ⟨z1, z2⟩ := hz; have q6 : wz.cell? ⟨p, 6, none⟩ = some (.map (some b)) := blk_cell z1; have b1 : wz.cell? ⟨w.heap.size, 1, none⟩ = some (.string (strB src)) := blk_cell z2; have b2 : wz.cell? ⟨w.heap.size, 2, none⟩ = some (.string (strB dst)) := blk_cell z2; have b3 : wz.cell? ⟨w.heap.size, 3, none⟩ = some (.int .i64 (file : Int)) := blk_cell z2; clear z1 z2; go_simp; try with_reducible rfl)
  (try simp only [Act.put, List.setIfInBounds_toArray, List.set_cons_zero, List.set_cons_succ])
  refine PlanT.take0 (v := ?vM5) (by kernel_rfl) ?yM5 ?rM5
  case yM5 => (intro wz hz; obtain ⟨z1, z2⟩ := hz; have q6 : wz.cell? ⟨p, 6, none⟩ = some (.map (some b)) := blk_cell z1; have b1 : wz.cell? ⟨w.heap.size, 1, none⟩ = some (.string (strB src)) := blk_cell z2; have b2 : wz.cell? ⟨w.heap.size, 2, none⟩ = some (.string (strB dst)) := blk_cell z2; have b3 : wz.cell? ⟨w.heap.size, 3, none⟩ = some (.int .i64 (file : Int)) := blk_cell z2; clear z1 z2; go_simp; try with_reducible rfl)
  (try simp only [Act.put, List.setIfInBounds_toArray, List.set_cons_zero, List.set_cons_succ])
  refine PlanT.take0 (v := ?vM6) (by kernel_rfl) ?yM6 ?rM6
  case yM6 => (intro wz hz; obtain ⟨z1, z2⟩ := hz; have q6 : wz.cell? ⟨p, 6, none⟩ = some (.map (some b)) := blk_cell z1; have b1 : wz.cell? ⟨w.heap.size, 1, none⟩ = some (.string (strB src)) := blk_cell z2; have b2 : wz.cell? ⟨w.heap.size, 2, none⟩ = some (.string (strB dst)) := blk_cell z2; have b3 : wz.cell? ⟨w.heap.size, 3, none⟩ = some (.int .i64 (file : Int)) := blk_cell z2; clear z1 z2; go_simp; try with_reducible rfl)
  (try simp only [Act.put, List.setIfInBounds_toArray, List.set_cons_zero, List.set_cons_succ])
  refine PlanT.take0 (v := ?vM7) (by kernel_rfl) ?yM7 ?rM7
  case yM7 => (intro wz hz; obtain ⟨z1, z2⟩ := hz; have q6 : wz.cell? ⟨p, 6, none⟩ = some (.map (some b)) := blk_cell z1; have b1 : wz.cell? ⟨w.heap.size, 1, none⟩ = some (.string (strB src)) := blk_cell z2; have b2 : wz.cell? ⟨w.heap.size, 2, none⟩ = some (.string (strB dst)) := blk_cell z2; have b3 : wz.cell? ⟨w.heap.size, 3, none⟩ = some (.int .i64 (file : Int)) := blk_cell z2; clear z1 z2; go_simp; try with_reducible rfl)
  (try simp only [Act.put, List.setIfInBounds_toArray, List.set_cons_zero, List.set_cons_succ])
  refine PlanT.exec2 (fun K hK => ⟨by kernel_rfl, ?_⟩)
  refine wp_nm_put (.tmp 22) (.tmp 24) (.tmp 26) 57 rfl (.map (some b)) l (dst) (file) rfl rfl rfl rfl (by rw [strB_size]; unfold maxLen; omega) ⟨_, rfl⟩ hn1 (by unfold maxLen; omega) ?_ (by omega)
  intro w2 hnM hgM hzM
  have hpM := (hgM.block p (blk_lt h1) (fun e => hpn e.symm)).trans h1
  have hxM := (hgM.block w.heap.size (blk_lt hx) (fun e => hBn e.symm)).trans hx
  refine hK.out _ _ ⟨hpM, hxM⟩ ⟨hpM, hxM⟩ ?_
  clear hK K
  (try simp only [Act.put, List.setIfInBounds_toArray, List.set_cons_zero, List.set_cons_succ])
  refine PlanT.done (NoPanic.normal ?_)
  go_wp2
  go_end0
  exact ⟨rfl, grown_renamed hbel hgM hpM hnM⟩

set_option maxRecDepth 100000 in
set_option maxHeartbeats 4000000 in
set_option linter.unusedSimpArgs false in
set_option linter.unusedVariables false in
theorem rename_made_nil (w : World) (p : Nat) (c0 c1 c2 c3 c4 c5 nv c7 c8 : Value) (src dst : List UInt8) (file : Nat) (l : DB) (h : w.heap[p]? = some (.cells #[c0, c1, c2, c3, c4, c5, nv, c7, c8] 60 (0, 0))) (hn : Nm w nv l) (hpn : mapBlock nv ≠ some p)
    (hm : l.length < 1000000000000) (hs : src.length < 1000000000) (hd : dst.length < 1000000000) (hf : file < 1000000000000) (hnn : nv = .map none) :
    Calls Try.prog 32 #[.pointer (some ⟨p, 0, none⟩), .agg #[.int .i64 0, .string (strB src), .string (strB dst), .int .i64 (file : Int)]] w fun e w' => e = .returned (.tuple #[]) ∧ Renamed w w' p c0 c1 c2 c3 c4 c5 nv c7 c8 (dwith l dst file) := by
  subst hnn
  have hl : l = [] := by rcases hn with ⟨_, h⟩ | ⟨b, h, _⟩; exact h; cases h
  subst hl
  have hp := blk_lt h
  have hne : ¬ w.heap.size = p := by omega
  have hne' : ¬ p = w.heap.size := by omega
  have d6 : w.cell? ⟨p, 6, none⟩ = some (.map none) := blk_cell h
  have f6 : w.frozen? ⟨p, 6, none⟩ = false := blk_free h
  have hq := eql_nil
  have hmm := @run_makeMap Try.prog
  obtain ⟨w1, hw1⟩ : ∃ w1, w1 = (((w.setCell ⟨p, 6, none⟩ (.map (some (w.heap.size + 1)))).alloc (.cells #[.int .i64 0, .string (strB src), .string (strB dst), .int .i64 (file : Int)] 72)).alloc (.map #[] 0)).drew := ⟨_, rfl⟩
  have hz : (w.setCell ⟨p, 6, none⟩ (.map (some (w.heap.size + 1)))).heap.size = w.heap.size := by simp [World.setCell]
  have hz2 : ((w.setCell ⟨p, 6, none⟩ (.map (some (w.heap.size + 1)))).alloc (.cells #[.int .i64 0, .string (strB src), .string (strB dst), .int .i64 (file : Int)] 72)).heap.size = w.heap.size + 1 := by simp [World.setCell]
  have hx : w1.heap[w.heap.size]? = some (.cells #[.int .i64 0, .string (strB src), .string (strB dst), .int .i64 (file : Int)] 72) := by
    subst hw1
    refine (Below.heap_alloc _ _ _ (by rw [hz2]; omega)).trans ?_
    have := heap_alloc_new (w.setCell ⟨p, 6, none⟩ (.map (some (w.heap.size + 1)))) (.cells #[.int .i64 0, .string (strB src), .string (strB dst), .int .i64 (file : Int)] 72)
    rw [hz] at this
    exact this
  have h1 : w1.heap[p]? = some (.cells #[c0, c1, c2, c3, c4, c5, .map (some (w.heap.size + 1)), c7, c8] 60 (0, 0)) := by
    subst hw1
    refine (Below.heap_alloc _ _ _ (by rw [hz2]; omega)).trans ((Below.heap_alloc _ _ _ (by rw [hz]; omega)).trans ?_)
    simpa using blk_set (i := 6) h (.map (some (w.heap.size + 1)))
  have hn1 : Nm w1 (.map (some (w.heap.size + 1))) [] := by
    subst hw1
    have := World.ownsMap_made (H := Unit) ((w.setCell ⟨p, 6, none⟩ (.map (some (w.heap.size + 1)))).alloc (.cells #[.int .i64 0, .string (strB src), .string (strB dst), .int .i64 (file : Int)] 72)) Try.prog 9 (plainElem Try.prog 3)
    rw [hz2] at this
    exact .inr ⟨_, rfl, this⟩
  have hk1 : Kept (fun k => k < w.heap.size ∧ k ≠ p ∧ mapBlock (.map none) ≠ some k) w w1 := by
    subst hw1
    exact ((((Kept.refl _ w).setCell (fun h => h.2.1 rfl) _).alloc (fun k hk => by rw [hz]; exact hk.1) _).alloc (fun k hk => by rw [hz2]; omega) _).drew
  have hs1 : w1.heap.size = w.heap.size + 2 := by subst hw1; simp [World.setCell]
  have hBn : mapBlock (.map (some (w.heap.size + 1))) ≠ some w.heap.size := fun e => by simp [mapBlock] at e
  have hpn : mapBlock (.map (some (w.heap.size + 1))) ≠ some p := fun e => by simp [mapBlock] at e; omega
  have hss := strB_size src
  have hsd := strB_size dst
  have Hw1 := Lib.hid hw1
  have Hz := Lib.hid hz
  have Hz2 := Lib.hid hz2
  have Hs1 := Lib.hid hs1
  clear hw1 hz hz2 hs1
  go_enter Try.func32, Try.ntmps32
  go_wp2
  refine wp_region_two (fun wz => wz.heap[p]? = some (.cells #[c0, c1, c2, c3, c4, c5, .map (some (w.heap.size + 1)), c7, c8] 60 (0, 0)) ∧ wz.heap[w.heap.size]? = some (.cells #[.int .i64 0, .string (strB src), .string (strB dst), .int .i64 (file : Int)] 72 (0, 0))) (fun wz => wz.heap[p]? = some (.cells #[c0, c1, c2, c3, c4, c5, .map (some (w.heap.size + 1)), c7, c8] 60 (0, 0)) ∧ wz.heap[w.heap.size]? = some (.cells #[.int .i64 0, .string (strB src), .string (strB dst), .int .i64 (file : Int)] 72 (0, 0))) [(0, 0), (0, 1), (0, 2), (0, 3), (0, 4), (0, 5), (0, 6), (0, 7), (2, 8)] [] (by kernel_rfl) (by kernel_rfl) (by kernel_rfl) (by kernel_rfl) (by kernel_rfl) (by rw [← Hw1.out]; exact ⟨h1, hx⟩) (by rw [← Hw1.out]; exact ⟨h1, hx⟩) ?_
  simp only [planT, List.drop_succ_cons, List.drop_zero]
  rw [← Hw1.out]
  refine PlanT.take0 (v := ?vN0) (by kernel_rfl) ?yN0 ?rN0
  case yN0 => (intro wz hz; obtain ⟨z1, z2⟩ := hz; have q6 : wz.cell? ⟨p, 6, none⟩ = some (.map (some (w.heap.size + 1))) := blk_cell z1; have b1 : wz.cell? ⟨w.heap.size, 1, none⟩ = some (.string (strB src)) := blk_cell z2; have b2 : wz.cell? ⟨w.heap.size, 2, none⟩ = some (.string (strB dst)) := blk_cell z2; have b3 : wz.cell? ⟨w.heap.size, 3, none⟩ = some (.int .i64 (file : Int)) := blk_cell z2; clear z1 z2; go_simp; try with_reducible rfl)
  (try simp only [Act.put, List.setIfInBounds_toArray, List.set_cons_zero, List.set_cons_succ])
  refine PlanT.take0 (v := ?vN1) (by kernel_rfl) ?yN1 ?rN1
  case yN1 => (intro wz hz; obtain ⟨z1, z2⟩ := hz; have q6 : wz.cell? ⟨p, 6, none⟩ = some (.map (some (w.heap.size + 1))) := blk_cell z1; have b1 : wz.cell? ⟨w.heap.size, 1, none⟩ = some (.string (strB src)) := blk_cell z2; have b2 : wz.cell? ⟨w.heap.size, 2, none⟩ = some (.string (strB dst)) := blk_cell z2; have b3 : wz.cell? ⟨w.heap.size, 3, none⟩ = some (.int .i64 (file : Int)) := blk_cell z2; clear z1 z2; go_simp; try with_reducible rfl)
  (try simp only [Act.put, List.setIfInBounds_toArray, List.set_cons_zero, List.set_cons_succ])
  refine PlanT.take0 (v := ?vN2) (by kernel_rfl) ?yN2 ?rN2
  case yN2 => (intro wz hz; obtain ⟨z1, z2⟩ := hz; have q6 : wz.cell? ⟨p, 6, none⟩ = some (.map (some (w.heap.size + 1))) := blk_cell z1; have b1 : wz.cell? ⟨w.heap.size, 1, none⟩ = some (.string (strB src)) := blk_cell z2; have b2 : wz.cell? ⟨w.heap.size, 2, none⟩ = some (.string (strB dst)) := blk_cell z2; have b3 : wz.cell? ⟨w.heap.size, 3, none⟩ = some (.int .i64 (file : Int)) := blk_cell z2; clear z1 z2; go_simp; try with_reducible rfl)
  (try simp only [Act.put, List.setIfInBounds_toArray, List.set_cons_zero, List.set_cons_succ])
  refine PlanT.take0 (v := ?vN3) (by kernel_rfl) ?yN3 ?rN3
  case yN3 => (intro wz hz; obtain ⟨z1, z2⟩ := hz; have q6 : wz.cell? ⟨p, 6, none⟩ = some (.map (some (w.heap.size + 1))) := blk_cell z1; have b1 : wz.cell? ⟨w.heap.size, 1, none⟩ = some (.string (strB src)) := blk_cell z2; have b2 : wz.cell? ⟨w.heap.size, 2, none⟩ = some (.string (strB dst)) := blk_cell z2; have b3 : wz.cell? ⟨w.heap.size, 3, none⟩ = some (.int .i64 (file : Int)) := blk_cell z2; clear z1 z2; go_simp; try with_reducible rfl)
  (try simp only [Act.put, List.setIfInBounds_toArray, List.set_cons_zero, List.set_cons_succ])
  refine PlanT.take0 (v := ?vN4) (by kernel_rfl) ?yN4 ?rN4
  case yN4 => (intro wz hz; obtain ⟨z1, z2⟩ := hz; have q6 : wz.cell? ⟨p, 6, none⟩ = some (.map (some (w.heap.size + 1))) := blk_cell z1; have b1 : wz.cell? ⟨w.heap.size, 1, none⟩ = some (.string (strB src)) := blk_cell z2; have b2 : wz.cell? ⟨w.heap.size, 2, none⟩ = some (.string (strB dst)) := blk_cell z2; have b3 : wz.cell? ⟨w.heap.size, 3, none⟩ = some (.int .i64 (file : Int)) := blk_cell z2; clear z1 z2; go_simp; try with_reducible rfl)
  (try simp only [Act.put, List.setIfInBounds_toArray, List.set_cons_zero, List.set_cons_succ])
  refine PlanT.take0 (v := ?vN5) (by kernel_rfl) ?yN5 ?rN5
  case yN5 => (intro wz hz; obtain ⟨z1, z2⟩ := hz; have q6 : wz.cell? ⟨p, 6, none⟩ = some (.map (some (w.heap.size + 1))) := blk_cell z1; have b1 : wz.cell? ⟨w.heap.size, 1, none⟩ = some (.string (strB src)) := blk_cell z2; have b2 : wz.cell? ⟨w.heap.size, 2, none⟩ = some (.string (strB dst)) := blk_cell z2; have b3 : wz.cell? ⟨w.heap.size, 3, none⟩ = some (.int .i64 (file : Int)) := blk_cell z2; clear z1 z2; go_simp; try with_reducible rfl)
  (try simp only [Act.put, List.setIfInBounds_toArray, List.set_cons_zero, List.set_cons_succ])
  refine PlanT.take0 (v := ?vN6) (by kernel_rfl) ?yN6 ?rN6
  case yN6 => (intro wz hz; obtain ⟨z1, z2⟩ := hz; have q6 : wz.cell? ⟨p, 6, none⟩ = some (.map (some (w.heap.size + 1))) := blk_cell z1; have b1 : wz.cell? ⟨w.heap.size, 1, none⟩ = some (.string (strB src)) := blk_cell z2; have b2 : wz.cell? ⟨w.heap.size, 2, none⟩ = some (.string (strB dst)) := blk_cell z2; have b3 : wz.cell? ⟨w.heap.size, 3, none⟩ = some (.int .i64 (file : Int)) := blk_cell z2; clear z1 z2; go_simp; try with_reducible rfl)
  (try simp only [Act.put, List.setIfInBounds_toArray, List.set_cons_zero, List.set_cons_succ])
  refine PlanT.take0 (v := ?vN7) (by kernel_rfl) ?yN7 ?rN7
  case yN7 => (intro wz hz; obtain ⟨z1, z2⟩ := hz; have q6 : wz.cell? ⟨p, 6, none⟩ = some (.map (some (w.heap.size + 1))) := blk_cell z1; have b1 : wz.cell? ⟨w.heap.size, 1, none⟩ = some (.string (strB src)) := blk_cell z2; have b2 : wz.cell? ⟨w.heap.size, 2, none⟩ = some (.string (strB dst)) := blk_cell z2; have b3 : wz.cell? ⟨w.heap.size, 3, none⟩ = some (.int .i64 (file : Int)) := blk_cell z2; clear z1 z2; go_simp; try with_reducible rfl)
  (try simp only [Act.put, List.setIfInBounds_toArray, List.set_cons_zero, List.set_cons_succ])
  refine PlanT.exec2 (fun K hK => ⟨by kernel_rfl, ?_⟩)
  refine wp_nm_put (.tmp 22) (.tmp 24) (.tmp 26) 57 rfl (.map (some (w.heap.size + 1))) [] (dst) (file) rfl rfl rfl rfl (by rw [strB_size]; unfold maxLen; omega) ⟨_, rfl⟩ hn1 (by unfold maxLen; omega) ?_ (by omega)
  intro w2 hnN hgN hzN
  have hpN := (hgN.block p (blk_lt h1) (fun e => hpn e.symm)).trans h1
  have hxN := (hgN.block w.heap.size (blk_lt hx) (fun e => hBn e.symm)).trans hx
  refine hK.out _ _ ⟨hpN, hxN⟩ ⟨hpN, hxN⟩ ?_
  clear hK K
  (try simp only [Act.put, List.setIfInBounds_toArray, List.set_cons_zero, List.set_cons_succ])
  refine PlanT.done (NoPanic.normal ?_)
  go_wp2
  go_end0
  refine ⟨rfl, _, hpN, hnN, ⟨hgN.os.trans hk1.os, hgN.tape.trans hk1.tape, hgN.output.trans hk1.output, Nat.le_trans hk1.size hgN.size, fun k hk => (hgN.block k (by have := Hs1.out; omega) (fun e => by simp [mapBlock] at e; omega)).trans (hk1.block k hk)⟩, fun k hk => ?_⟩
  simp only [mapBlock, Option.some.injEq] at hk
  have := Hs1.out
  have := hgN.size
  exact .inr (by omega)

set_option maxRecDepth 100000 in
set_option maxHeartbeats 4000000 in
set_option linter.unusedSimpArgs false in
set_option linter.unusedVariables false in
theorem rename_moved_none (w : World) (p : Nat) (c0 c1 c2 c3 c4 c5 nv c7 c8 : Value) (src dst : List UInt8) (file : Nat) (l : DB) (h : w.heap[p]? = some (.cells #[c0, c1, c2, c3, c4, c5, nv, c7, c8] 60 (0, 0))) (hn : Nm w nv l) (hpn : mapBlock nv ≠ some p)
    (hm : l.length < 1000000000000) (hs : src.length < 1000000000) (hd : dst.length < 1000000000) (hf : file < 1000000000000) (hfn : dfind l src = none) :
    Calls Try.prog 32 #[.pointer (some ⟨p, 0, none⟩), .agg #[.int .i64 1, .string (strB src), .string (strB dst), .int .i64 (file : Int)]] w fun e w' => e = .returned (.tuple #[]) ∧ Renamed w w' p c0 c1 c2 c3 c4 c5 nv c7 c8 (l) := by
  have hp := blk_lt h
  have hne : ¬ w.heap.size = p := by omega
  have hne' : ¬ p = w.heap.size := by omega
  have hBn : mapBlock nv ≠ some w.heap.size := fun e => by have := hn.lt _ e; omega
  have hss := strB_size src
  have hsd := strB_size dst
  obtain ⟨w1, hw1⟩ : ∃ w1, w1 = (w.alloc (.cells #[.int .i64 1, .string (strB src), .string (strB dst), .int .i64 (file : Int)] 72)).drew := ⟨_, rfl⟩
  have hx : w1.heap[w.heap.size]? = some (.cells #[.int .i64 1, .string (strB src), .string (strB dst), .int .i64 (file : Int)] 72) := by
    subst hw1
    exact heap_alloc_new w _
  have h1 : w1.heap[p]? = some (.cells #[c0, c1, c2, c3, c4, c5, nv, c7, c8] 60 (0, 0)) := by
    subst hw1
    exact (Below.heap_alloc _ _ _ hp).trans h
  have hbel : Below w.heap.size w w1 := by
    subst hw1
    exact ((Below.refl _ _).alloc (Nat.le_refl _) _).drew
  have hn1 : Nm w1 nv l := hn.kept (Kept.of hbel (R := fun k => k < w.heap.size) fun _ h => h) fun k hk => hn.lt k hk
  have Hw1 := Lib.hid hw1
  clear hw1
  have hlk := nm_look_none hn1 (strB src) (by rw [hss]; unfold maxLen; omega) hfn
  go_enter Try.func32, Try.ntmps32
  go_wp2
  refine wp_region_two (fun wz => wz = w1) (fun wz => wz = w1) [(0, 0), (0, 1), (0, 2), (0, 3), (0, 4), (0, 5), (0, 6), (0, 7), (0, 8), (0, 9), (0, 10), (0, 11)] [] (by kernel_rfl) (by kernel_rfl) (by kernel_rfl) (by kernel_rfl) (by kernel_rfl) Hw1.out.symm Hw1.out.symm ?_
  simp only [planT, List.drop_succ_cons, List.drop_zero]
  rw [← Hw1.out]
  have q6 : w1.cell? ⟨p, 6, none⟩ = some nv := blk_cell h1
  have b1 : w1.cell? ⟨w.heap.size, 1, none⟩ = some (.string (strB src)) := blk_cell hx
  refine PlanT.take0 (v := ?v0) (by kernel_rfl) ?y0 ?r0
  case y0 => (intro wz hz; subst hz; go_simp; try with_reducible rfl)
  (try simp only [Act.put, List.setIfInBounds_toArray, List.set_cons_zero, List.set_cons_succ])
  refine PlanT.take0 (v := ?v1) (by kernel_rfl) ?y1 ?r1
  case y1 => (intro wz hz; subst hz; go_simp; try with_reducible rfl)
  (try simp only [Act.put, List.setIfInBounds_toArray, List.set_cons_zero, List.set_cons_succ])
  refine PlanT.take0 (v := ?v2) (by kernel_rfl) ?y2 ?r2
  case y2 => (intro wz hz; subst hz; go_simp; try with_reducible rfl)
  (try simp only [Act.put, List.setIfInBounds_toArray, List.set_cons_zero, List.set_cons_succ])
  refine PlanT.take0 (v := ?v3) (by kernel_rfl) ?y3 ?r3
  case y3 => (intro wz hz; subst hz; go_simp; try with_reducible rfl)
  (try simp only [Act.put, List.setIfInBounds_toArray, List.set_cons_zero, List.set_cons_succ])
  refine PlanT.take0 (v := ?v4) (by kernel_rfl) ?y4 ?r4
  case y4 => (intro wz hz; subst hz; go_simp; try with_reducible rfl)
  (try simp only [Act.put, List.setIfInBounds_toArray, List.set_cons_zero, List.set_cons_succ])
  refine PlanT.take0 (v := ?v5) (by kernel_rfl) ?y5 ?r5
  case y5 => (intro wz hz; subst hz; go_simp; try with_reducible rfl)
  (try simp only [Act.put, List.setIfInBounds_toArray, List.set_cons_zero, List.set_cons_succ])
  refine PlanT.take0 (v := ?v6) (by kernel_rfl) ?y6 ?r6
  case y6 => (intro wz hz; subst hz; go_simp; try with_reducible rfl)
  (try simp only [Act.put, List.setIfInBounds_toArray, List.set_cons_zero, List.set_cons_succ])
  refine PlanT.take0 (v := ?v7) (by kernel_rfl) ?y7 ?r7
  case y7 => (intro wz hz; subst hz; go_simp; try with_reducible rfl)
  (try simp only [Act.put, List.setIfInBounds_toArray, List.set_cons_zero, List.set_cons_succ])
  refine PlanT.take0 (v := ?v8) (by kernel_rfl) ?y8 ?r8
  case y8 => (intro wz hz; subst hz; go_simp; try with_reducible rfl)
  (try simp only [Act.put, List.setIfInBounds_toArray, List.set_cons_zero, List.set_cons_succ])
  refine PlanT.take0 (v := ?v9) (by kernel_rfl) ?y9 ?r9
  case y9 => (intro wz hz; subst hz; go_simp; try with_reducible rfl)
  (try simp only [Act.put, List.setIfInBounds_toArray, List.set_cons_zero, List.set_cons_succ])
  refine PlanT.take0 (v := ?v10) (by kernel_rfl) ?y10 ?r10
  case y10 => (intro wz hz; subst hz; go_simp; try with_reducible rfl)
  (try simp only [Act.put, List.setIfInBounds_toArray, List.set_cons_zero, List.set_cons_succ])
  refine PlanT.take0 (v := ?v11) (by kernel_rfl) ?y11 ?r11
  case y11 => (intro wz hz; subst hz; go_simp; try with_reducible rfl)
  (try simp only [Act.put, List.setIfInBounds_toArray, List.set_cons_zero, List.set_cons_succ])
  refine PlanT.done (NoPanic.normal ?_)
  go_wp2
  go_end0
  exact ⟨rfl, nv, h1, hn1, Kept.of hbel fun k hk => hk.1, fun k hk => .inl hk⟩

set_option maxRecDepth 100000 in
set_option maxHeartbeats 4000000 in
set_option linter.unusedSimpArgs false in
set_option linter.unusedVariables false in
theorem rename_moved_some (w : World) (p : Nat) (c0 c1 c2 c3 c4 c5 nv c7 c8 : Value) (src dst : List UInt8) (file : Nat) (l : DB) (h : w.heap[p]? = some (.cells #[c0, c1, c2, c3, c4, c5, nv, c7, c8] 60 (0, 0))) (hn : Nm w nv l) (hpn : mapBlock nv ≠ some p)
    (hm : l.length < 1000000000000) (hs : src.length < 1000000000) (hd : dst.length < 1000000000) (hf : file < 1000000000000) (id : Nat) (hid : id < 1000000000000) (hfn : dfind l src = some id) :
    Calls Try.prog 32 #[.pointer (some ⟨p, 0, none⟩), .agg #[.int .i64 1, .string (strB src), .string (strB dst), .int .i64 (file : Int)]] w fun e w' => e = .returned (.tuple #[]) ∧ Renamed w w' p c0 c1 c2 c3 c4 c5 nv c7 c8 (dwith (dwithout l src) dst id) := by
  have hp := blk_lt h
  have hne : ¬ w.heap.size = p := by omega
  have hne' : ¬ p = w.heap.size := by omega
  have hBn : mapBlock nv ≠ some w.heap.size := fun e => by have := hn.lt _ e; omega
  have hss := strB_size src
  have hsd := strB_size dst
  obtain ⟨w1, hw1⟩ : ∃ w1, w1 = (w.alloc (.cells #[.int .i64 1, .string (strB src), .string (strB dst), .int .i64 (file : Int)] 72)).drew := ⟨_, rfl⟩
  have hx : w1.heap[w.heap.size]? = some (.cells #[.int .i64 1, .string (strB src), .string (strB dst), .int .i64 (file : Int)] 72) := by
    subst hw1
    exact heap_alloc_new w _
  have h1 : w1.heap[p]? = some (.cells #[c0, c1, c2, c3, c4, c5, nv, c7, c8] 60 (0, 0)) := by
    subst hw1
    exact (Below.heap_alloc _ _ _ hp).trans h
  have hbel : Below w.heap.size w w1 := by
    subst hw1
    exact ((Below.refl _ _).alloc (Nat.le_refl _) _).drew
  have hn1 : Nm w1 nv l := hn.kept (Kept.of hbel (R := fun k => k < w.heap.size) fun _ h => h) fun k hk => hn.lt k hk
  have Hw1 := Lib.hid hw1
  clear hw1
  have hlk := nm_look_some hn1 (strB src) (by rw [hss]; unfold maxLen; omega) hfn
  have hnn : ∃ b, nv = .map (some b) := by
    rcases hn with ⟨_, h⟩ | ⟨b, h, _⟩
    · subst h; cases hfn
    · exact ⟨b, h⟩
  have hwl : (dwithout l src).length ≤ l.length := List.length_filter_le _ _
  go_enter Try.func32, Try.ntmps32
  go_wp2
  refine wp_region_two (fun wz => wz = w1) (fun wz => wz = w1) [(0, 0), (0, 1), (0, 2), (0, 3), (0, 4), (0, 5), (0, 6), (0, 7), (0, 8), (0, 9), (0, 10), (0, 11)] [] (by kernel_rfl) (by kernel_rfl) (by kernel_rfl) (by kernel_rfl) (by kernel_rfl) Hw1.out.symm Hw1.out.symm ?_
  simp only [planT, List.drop_succ_cons, List.drop_zero]
  rw [← Hw1.out]
  have q6 : w1.cell? ⟨p, 6, none⟩ = some nv := blk_cell h1
  have b1 : w1.cell? ⟨w.heap.size, 1, none⟩ = some (.string (strB src)) := blk_cell hx
  refine PlanT.take0 (v := ?va0) (by kernel_rfl) ?ya0 ?ra0
  case ya0 => (intro wz hz; subst hz; go_simp; try with_reducible rfl)
  (try simp only [Act.put, List.setIfInBounds_toArray, List.set_cons_zero, List.set_cons_succ])
  refine PlanT.take0 (v := ?va1) (by kernel_rfl) ?ya1 ?ra1
  case ya1 => (intro wz hz; subst hz; go_simp; try with_reducible rfl)
  (try simp only [Act.put, List.setIfInBounds_toArray, List.set_cons_zero, List.set_cons_succ])
  refine PlanT.take0 (v := ?va2) (by kernel_rfl) ?ya2 ?ra2
  case ya2 => (intro wz hz; subst hz; go_simp; try with_reducible rfl)
  (try simp only [Act.put, List.setIfInBounds_toArray, List.set_cons_zero, List.set_cons_succ])
  refine PlanT.take0 (v := ?va3) (by kernel_rfl) ?ya3 ?ra3
  case ya3 => (intro wz hz; subst hz; go_simp; try with_reducible rfl)
  (try simp only [Act.put, List.setIfInBounds_toArray, List.set_cons_zero, List.set_cons_succ])
  refine PlanT.take0 (v := ?va4) (by kernel_rfl) ?ya4 ?ra4
  case ya4 => (intro wz hz; subst hz; go_simp; try with_reducible rfl)
  (try simp only [Act.put, List.setIfInBounds_toArray, List.set_cons_zero, List.set_cons_succ])
  refine PlanT.take0 (v := ?va5) (by kernel_rfl) ?ya5 ?ra5
  case ya5 => (intro wz hz; subst hz; go_simp; try with_reducible rfl)
  (try simp only [Act.put, List.setIfInBounds_toArray, List.set_cons_zero, List.set_cons_succ])
  refine PlanT.take0 (v := ?va6) (by kernel_rfl) ?ya6 ?ra6
  case ya6 => (intro wz hz; subst hz; go_simp; try with_reducible rfl)
  (try simp only [Act.put, List.setIfInBounds_toArray, List.set_cons_zero, List.set_cons_succ])
  refine PlanT.take0 (v := ?va7) (by kernel_rfl) ?ya7 ?ra7
  case ya7 => (intro wz hz; subst hz; go_simp; try with_reducible rfl)
  (try simp only [Act.put, List.setIfInBounds_toArray, List.set_cons_zero, List.set_cons_succ])
  refine PlanT.take0 (v := ?va8) (by kernel_rfl) ?ya8 ?ra8
  case ya8 => (intro wz hz; subst hz; go_simp; try with_reducible rfl)
  (try simp only [Act.put, List.setIfInBounds_toArray, List.set_cons_zero, List.set_cons_succ])
  refine PlanT.take0 (v := ?va9) (by kernel_rfl) ?ya9 ?ra9
  case ya9 => (intro wz hz; subst hz; go_simp; try with_reducible rfl)
  (try simp only [Act.put, List.setIfInBounds_toArray, List.set_cons_zero, List.set_cons_succ])
  refine PlanT.take0 (v := ?va10) (by kernel_rfl) ?ya10 ?ra10
  case ya10 => (intro wz hz; subst hz; go_simp; try with_reducible rfl)
  (try simp only [Act.put, List.setIfInBounds_toArray, List.set_cons_zero, List.set_cons_succ])
  refine PlanT.take0 (v := ?va11) (by kernel_rfl) ?ya11 ?ra11
  case ya11 => (intro wz hz; subst hz; go_simp; try with_reducible rfl)
  (try simp only [Act.put, List.setIfInBounds_toArray, List.set_cons_zero, List.set_cons_succ])
  refine PlanT.done (NoPanic.normal ?_)
  go_wp2
  refine wp_region_two (fun wz => wz.heap[p]? = some (.cells #[c0, c1, c2, c3, c4, c5, nv, c7, c8] 60 (0, 0)) ∧ wz.heap[w.heap.size]? = some (.cells #[.int .i64 1, .string (strB src), .string (strB dst), .int .i64 (file : Int)] 72 (0, 0))) (fun wz => wz.heap[p]? = some (.cells #[c0, c1, c2, c3, c4, c5, nv, c7, c8] 60 (0, 0)) ∧ wz.heap[w.heap.size]? = some (.cells #[.int .i64 1, .string (strB src), .string (strB dst), .int .i64 (file : Int)] 72 (0, 0))) [(0, 0), (0, 1), (0, 2), (0, 3), (0, 4), (0, 5), (2, 6)] [] (by kernel_rfl) (by kernel_rfl) (by kernel_rfl) (by kernel_rfl) (by kernel_rfl) ⟨h1, hx⟩ ⟨h1, hx⟩ ?_
  simp only [planT, List.drop_succ_cons, List.drop_zero]
  refine PlanT.take0 (v := ?vD0) (by kernel_rfl) ?yD0 ?rD0
  case yD0 => (intro wz hz; obtain ⟨z1, z2⟩ := hz; have q6 : wz.cell? ⟨p, 6, none⟩ = some (nv) := blk_cell z1; have b1 : wz.cell? ⟨w.heap.size, 1, none⟩ = some (.string (strB src)) := blk_cell z2; have b2 : wz.cell? ⟨w.heap.size, 2, none⟩ = some (.string (strB dst)) := blk_cell z2; have b3 : wz.cell? ⟨w.heap.size, 3, none⟩ = some (.int .i64 (file : Int)) := blk_cell z2; clear z1 z2; go_simp; try with_reducible rfl)
  (try simp only [Act.put, List.setIfInBounds_toArray, List.set_cons_zero, List.set_cons_succ])
  refine PlanT.take0 (v := ?vD1) (by kernel_rfl) ?yD1 ?rD1
  case yD1 => (intro wz hz; obtain ⟨z1, z2⟩ := hz; have q6 : wz.cell? ⟨p, 6, none⟩ = some (nv) := blk_cell z1; have b1 : wz.cell? ⟨w.heap.size, 1, none⟩ = some (.string (strB src)) := blk_cell z2; have b2 : wz.cell? ⟨w.heap.size, 2, none⟩ = some (.string (strB dst)) := blk_cell z2; have b3 : wz.cell? ⟨w.heap.size, 3, none⟩ = some (.int .i64 (file : Int)) := blk_cell z2; clear z1 z2; go_simp; try with_reducible rfl)
  (try simp only [Act.put, List.setIfInBounds_toArray, List.set_cons_zero, List.set_cons_succ])
  refine PlanT.take0 (v := ?vD2) (by kernel_rfl) ?yD2 ?rD2
  case yD2 => (intro wz hz; obtain ⟨z1, z2⟩ := hz; have q6 : wz.cell? ⟨p, 6, none⟩ = some (nv) := blk_cell z1; have b1 : wz.cell? ⟨w.heap.size, 1, none⟩ = some (.string (strB src)) := blk_cell z2; have b2 : wz.cell? ⟨w.heap.size, 2, none⟩ = some (.string (strB dst)) := blk_cell z2; have b3 : wz.cell? ⟨w.heap.size, 3, none⟩ = some (.int .i64 (file : Int)) := blk_cell z2; clear z1 z2; go_simp; try with_reducible rfl)
  (try simp only [Act.put, List.setIfInBounds_toArray, List.set_cons_zero, List.set_cons_succ])
  refine PlanT.take0 (v := ?vD3) (by kernel_rfl) ?yD3 ?rD3
  case yD3 => (intro wz hz; obtain ⟨z1, z2⟩ := hz; have q6 : wz.cell? ⟨p, 6, none⟩ = some (nv) := blk_cell z1; have b1 : wz.cell? ⟨w.heap.size, 1, none⟩ = some (.string (strB src)) := blk_cell z2; have b2 : wz.cell? ⟨w.heap.size, 2, none⟩ = some (.string (strB dst)) := blk_cell z2; have b3 : wz.cell? ⟨w.heap.size, 3, none⟩ = some (.int .i64 (file : Int)) := blk_cell z2; clear z1 z2; go_simp; try with_reducible rfl)
  (try simp only [Act.put, List.setIfInBounds_toArray, List.set_cons_zero, List.set_cons_succ])
  refine PlanT.take0 (v := ?vD4) (by kernel_rfl) ?yD4 ?rD4
  case yD4 => (intro wz hz; obtain ⟨z1, z2⟩ := hz; have q6 : wz.cell? ⟨p, 6, none⟩ = some (nv) := blk_cell z1; have b1 : wz.cell? ⟨w.heap.size, 1, none⟩ = some (.string (strB src)) := blk_cell z2; have b2 : wz.cell? ⟨w.heap.size, 2, none⟩ = some (.string (strB dst)) := blk_cell z2; have b3 : wz.cell? ⟨w.heap.size, 3, none⟩ = some (.int .i64 (file : Int)) := blk_cell z2; clear z1 z2; go_simp; try with_reducible rfl)
  (try simp only [Act.put, List.setIfInBounds_toArray, List.set_cons_zero, List.set_cons_succ])
  refine PlanT.take0 (v := ?vD5) (by kernel_rfl) ?yD5 ?rD5
  case yD5 => (intro wz hz; obtain ⟨z1, z2⟩ := hz; have q6 : wz.cell? ⟨p, 6, none⟩ = some (nv) := blk_cell z1; have b1 : wz.cell? ⟨w.heap.size, 1, none⟩ = some (.string (strB src)) := blk_cell z2; have b2 : wz.cell? ⟨w.heap.size, 2, none⟩ = some (.string (strB dst)) := blk_cell z2; have b3 : wz.cell? ⟨w.heap.size, 3, none⟩ = some (.int .i64 (file : Int)) := blk_cell z2; clear z1 z2; go_simp; try with_reducible rfl)
  (try simp only [Act.put, List.setIfInBounds_toArray, List.set_cons_zero, List.set_cons_succ])
  refine PlanT.exec2 (fun K hK => ⟨by kernel_rfl, ?_⟩)
  refine wp_nm_del (.tmp 43) (.tmp 45) 57 9 rfl (nv) l (src) rfl rfl rfl rfl (by rw [strB_size]; unfold maxLen; omega) hn1 ?_
  intro w2 hnD hgD hzD
  have hpD := (hgD.block p (blk_lt h1) (fun e => hpn e.symm)).trans h1
  have hxD := (hgD.block w.heap.size (blk_lt hx) (fun e => hBn e.symm)).trans hx
  refine hK.out _ _ ⟨hpD, hxD⟩ ⟨hpD, hxD⟩ ?_
  clear hK K
  (try simp only [Act.put, List.setIfInBounds_toArray, List.set_cons_zero, List.set_cons_succ])
  refine PlanT.done (NoPanic.normal ?_)
  go_wp2
  refine wp_region_two (fun wz => wz.heap[p]? = some (.cells #[c0, c1, c2, c3, c4, c5, nv, c7, c8] 60 (0, 0)) ∧ wz.heap[w.heap.size]? = some (.cells #[.int .i64 1, .string (strB src), .string (strB dst), .int .i64 (file : Int)] 72 (0, 0))) (fun wz => wz.heap[p]? = some (.cells #[c0, c1, c2, c3, c4, c5, nv, c7, c8] 60 (0, 0)) ∧ wz.heap[w.heap.size]? = some (.cells #[.int .i64 1, .string (strB src), .string (strB dst), .int .i64 (file : Int)] 72 (0, 0))) [(0, 0), (0, 1), (0, 2), (0, 3), (0, 4), (0, 5), (0, 6), (2, 7)] [] (by kernel_rfl) (by kernel_rfl) (by kernel_rfl) (by kernel_rfl) (by kernel_rfl) ⟨hpD, hxD⟩ ⟨hpD, hxD⟩ ?_
  simp only [planT, List.drop_succ_cons, List.drop_zero]
  refine PlanT.take0 (v := ?vP0) (by kernel_rfl) ?yP0 ?rP0
  case yP0 => (intro wz hz; obtain ⟨z1, z2⟩ := hz; have q6 : wz.cell? ⟨p, 6, none⟩ = some (nv) := blk_cell z1; have b1 : wz.cell? ⟨w.heap.size, 1, none⟩ = some (.string (strB src)) := blk_cell z2; have b2 : wz.cell? ⟨w.heap.size, 2, none⟩ = some (.string (strB dst)) := blk_cell z2; have b3 : wz.cell? ⟨w.heap.size, 3, none⟩ = some (.int .i64 (file : Int)) := blk_cell z2; clear z1 z2; go_simp; try with_reducible rfl)
  (try simp only [Act.put, List.setIfInBounds_toArray, List.set_cons_zero, List.set_cons_succ])
  refine PlanT.take0 (v := ?vP1) (by kernel_rfl) ?yP1 ?rP1
  case yP1 => (intro wz hz; obtain ⟨z1, z2⟩ := hz; have q6 : wz.cell? ⟨p, 6, none⟩ = some (nv) := blk_cell z1; have b1 : wz.cell? ⟨w.heap.size, 1, none⟩ = some (.string (strB src)) := blk_cell z2; have b2 : wz.cell? ⟨w.heap.size, 2, none⟩ = some (.string (strB dst)) := blk_cell z2; have b3 : wz.cell? ⟨w.heap.size, 3, none⟩ = some (.int .i64 (file : Int)) := blk_cell z2; clear z1 z2; go_simp; try with_reducible rfl)
  (try simp only [Act.put, List.setIfInBounds_toArray, List.set_cons_zero, List.set_cons_succ])
  refine PlanT.take0 (v := ?vP2) (by kernel_rfl) ?yP2 ?rP2
  case yP2 => (intro wz hz; obtain ⟨z1, z2⟩ := hz; have q6 : wz.cell? ⟨p, 6, none⟩ = some (nv) := blk_cell z1; have b1 : wz.cell? ⟨w.heap.size, 1, none⟩ = some (.string (strB src)) := blk_cell z2; have b2 : wz.cell? ⟨w.heap.size, 2, none⟩ = some (.string (strB dst)) := blk_cell z2; have b3 : wz.cell? ⟨w.heap.size, 3, none⟩ = some (.int .i64 (file : Int)) := blk_cell z2; clear z1 z2; go_simp; try with_reducible rfl)
  (try simp only [Act.put, List.setIfInBounds_toArray, List.set_cons_zero, List.set_cons_succ])
  refine PlanT.take0 (v := ?vP3) (by kernel_rfl) ?yP3 ?rP3
  case yP3 => (intro wz hz; obtain ⟨z1, z2⟩ := hz; have q6 : wz.cell? ⟨p, 6, none⟩ = some (nv) := blk_cell z1; have b1 : wz.cell? ⟨w.heap.size, 1, none⟩ = some (.string (strB src)) := blk_cell z2; have b2 : wz.cell? ⟨w.heap.size, 2, none⟩ = some (.string (strB dst)) := blk_cell z2; have b3 : wz.cell? ⟨w.heap.size, 3, none⟩ = some (.int .i64 (file : Int)) := blk_cell z2; clear z1 z2; go_simp; try with_reducible rfl)
  (try simp only [Act.put, List.setIfInBounds_toArray, List.set_cons_zero, List.set_cons_succ])
  refine PlanT.take0 (v := ?vP4) (by kernel_rfl) ?yP4 ?rP4
  case yP4 => (intro wz hz; obtain ⟨z1, z2⟩ := hz; have q6 : wz.cell? ⟨p, 6, none⟩ = some (nv) := blk_cell z1; have b1 : wz.cell? ⟨w.heap.size, 1, none⟩ = some (.string (strB src)) := blk_cell z2; have b2 : wz.cell? ⟨w.heap.size, 2, none⟩ = some (.string (strB dst)) := blk_cell z2; have b3 : wz.cell? ⟨w.heap.size, 3, none⟩ = some (.int .i64 (file : Int)) := blk_cell z2; clear z1 z2; go_simp; try with_reducible rfl)
  (try simp only [Act.put, List.setIfInBounds_toArray, List.set_cons_zero, List.set_cons_succ])
  refine PlanT.take0 (v := ?vP5) (by kernel_rfl) ?yP5 ?rP5
  case yP5 => (intro wz hz; obtain ⟨z1, z2⟩ := hz; have q6 : wz.cell? ⟨p, 6, none⟩ = some (nv) := blk_cell z1; have b1 : wz.cell? ⟨w.heap.size, 1, none⟩ = some (.string (strB src)) := blk_cell z2; have b2 : wz.cell? ⟨w.heap.size, 2, none⟩ = some (.string (strB dst)) := blk_cell z2; have b3 : wz.cell? ⟨w.heap.size, 3, none⟩ = some (.int .i64 (file : Int)) := blk_cell z2; clear z1 z2; go_simp; try with_reducible rfl)
  (try simp only [Act.put, List.setIfInBounds_toArray, List.set_cons_zero, List.set_cons_succ])
  refine PlanT.take0 (v := ?vP6) (by kernel_rfl) ?yP6 ?rP6
  case yP6 => (intro wz hz; obtain ⟨z1, z2⟩ := hz; have q6 : wz.cell? ⟨p, 6, none⟩ = some (nv) := blk_cell z1; have b1 : wz.cell? ⟨w.heap.size, 1, none⟩ = some (.string (strB src)) := blk_cell z2; have b2 : wz.cell? ⟨w.heap.size, 2, none⟩ = some (.string (strB dst)) := blk_cell z2; have b3 : wz.cell? ⟨w.heap.size, 3, none⟩ = some (.int .i64 (file : Int)) := blk_cell z2; clear z1 z2; go_simp; try with_reducible rfl)
  (try simp only [Act.put, List.setIfInBounds_toArray, List.set_cons_zero, List.set_cons_succ])
  refine PlanT.exec2 (fun K hK => ⟨by kernel_rfl, ?_⟩)
  refine wp_nm_put (.tmp 49) (.tmp 51) (.tmp 52) 57 rfl (nv) (dwithout l src) (dst) (id) rfl rfl rfl rfl (by rw [strB_size]; unfold maxLen; omega) hnn hnD (by unfold maxLen; omega) ?_ (by omega)
  intro w3 hnP hgP hzP
  have hpP := (hgP.block p (blk_lt hpD) (fun e => hpn e.symm)).trans hpD
  have hxP := (hgP.block w.heap.size (blk_lt hxD) (fun e => hBn e.symm)).trans hxD
  refine hK.out _ _ ⟨hpP, hxP⟩ ⟨hpP, hxP⟩ ?_
  clear hK K
  (try simp only [Act.put, List.setIfInBounds_toArray, List.set_cons_zero, List.set_cons_succ])
  refine PlanT.done (NoPanic.normal ?_)
  go_wp2
  go_end0
  exact ⟨rfl, grown_renamed hbel (World.grownBy.trans (grown_undrew hgD) (grown_undrew hgP)) hpP hnP⟩

/-- What is asked of a change. -/
structure ChOk (c : PC) : Prop where
  kind : c.kind ≤ 2
  src : c.src.length < 1000000000
  dst : c.dst.length < 1000000000
  file : c.file < 1000000000000

theorem rename_any (w : World) (p : Nat) (c0 c1 c2 c3 c4 c5 nv c7 c8 : Value) (c : PC) (l : DB) (h : w.heap[p]? = some (.cells #[c0, c1, c2, c3, c4, c5, nv, c7, c8] 60 (0, 0))) (hn : Nm w nv l) (hpn : mapBlock nv ≠ some p)
    (hm : l.length < 1000000000000) (hc : ChOk c) (hids : ∀ x ∈ l, x.2 < 1000000000000) :
    Calls Try.prog 32 #[.pointer (some ⟨p, 0, none⟩), .agg #[.int .i64 (c.kind : Int), .string (strB c.src), .string (strB c.dst), .int .i64 (c.file : Int)]] w fun e w' => e = .returned (.tuple #[]) ∧ Renamed w w' p c0 c1 c2 c3 c4 c5 nv c7 c8 (ren l c) := by
  obtain ⟨kind, src, dst, file⟩ := c
  obtain ⟨hk, hs, hd, hf⟩ := hc
  simp only at hk hs hd hf
  unfold ren
  rcases (show kind = 0 ∨ kind = 1 ∨ kind = 2 by omega) with rfl | rfl | rfl
  · simp only [if_pos]
    rcases hnv : mapBlock nv with _ | b
    · have : nv = .map none := by
        rcases hn with ⟨h, _⟩ | ⟨b, h, _⟩
        · exact h
        · subst h; cases hnv
      exact rename_made_nil w p c0 c1 c2 c3 c4 c5 nv c7 c8 src dst file l h hn hpn hm hs hd hf this
    · have : nv = .map (some b) := by
        rcases hn with ⟨h, _⟩ | ⟨b', h, _⟩
        · subst h; cases hnv
        · subst h; cases hnv; rfl
      exact rename_made_own w p c0 c1 c2 c3 c4 c5 nv c7 c8 src dst file l h hn hpn hm hs hd hf ⟨b, this⟩
  · simp only [if_neg (show ¬ (1 : Nat) = 0 by omega), if_pos]
    cases hfn : dfind l src with
    | none => exact rename_moved_none w p c0 c1 c2 c3 c4 c5 nv c7 c8 src dst file l h hn hpn hm hs hd hf hfn
    | some id =>
      have hid : id < 1000000000000 := by
        unfold dfind at hfn
        cases hx : l.find? fun x => x.1 == src with
        | none => rw [hx] at hfn; cases hfn
        | some x =>
          rw [hx] at hfn
          cases hfn
          exact hids x (List.mem_of_find?_eq_some hx)
      exact rename_moved_some w p c0 c1 c2 c3 c4 c5 nv c7 c8 src dst file l h hn hpn hm hs hd hf id hid hfn
  · simp only [if_neg (show ¬ (2 : Nat) = 0 by omega), if_neg (show ¬ (2 : Nat) = 1 by omega)]
    exact rename_gone w p c0 c1 c2 c3 c4 c5 nv c7 c8 src dst file l h hn hpn hm hs hd hf

end Go.Proofs.Ytmlijnekidihbaa
