/-
  append onto slices of the call's own or of an object's, with the word on where the new slice lies; a row that is owned.
-/
import Derived.Test.YtmlijnekidihbaaCells
import Derived.Maps.AppendAt
namespace Go.Proofs.Ytmlijnekidihbaa
open Go.RowKit

/-- A row that is owned: where it lies. -/
theorem own_form {w : World} {B e size n : Nat} {v : Value} {cs : List Value} (h : w.ownsRow B e size v n cs) (hn : 0 < n) : ∃ g cap cur, v = .slice (some ⟨g, 0, none⟩) n cap ∧ n ≤ cap ∧ cap ≤ maxLen ∧ w.heap[g]? = some (.cells cur e (0, 0)) ∧
    (∀ j u, cs[j]? = some u → w.cell? ⟨g, j, none⟩ = some u) ∧ (∀ j, w.frozen? ⟨g, j, none⟩ = false) := by
  obtain ⟨h0, h1⟩ := h
  rcases h1 with ⟨rfl, rfl⟩ | ⟨g, cap, cur, rfl, _, hg, hn', hm, hs, htake⟩
  · omega
  · refine ⟨g, cap, cur, rfl, hn', hm, hg, fun j u hj => ?_, fun j => blk_free hg⟩
    rw [blk_cell hg]
    rw [← htake, List.getElem?_take] at hj
    split at hj
    · simpa using hj
    · cases hj

/-- The slice 'v' has become 'v'': its block was written, or a new one is there; nothing else has turned. -/
structure Moves (w w' : World) (v v' : Value) : Prop where
  grown : w.grownBy w' v.ownBlock
  at_ : ∀ k, v'.ownBlock = some k → v.ownBlock = some k ∨ (w.heap.size ≤ k ∧ k < w'.heap.size)

theorem Moves.refl (w : World) (v : Value) : Moves w w v v := ⟨⟨rfl, rfl, rfl, Nat.le_refl _, fun _ _ _ => rfl⟩, fun _ h => .inl h⟩

theorem Moves.trans {a b c : World} {u v t : Value} (h : Moves a b u v) (k : Moves b c v t) : Moves a c u t where
  grown := ⟨k.grown.os.trans h.grown.os, k.grown.tape.trans h.grown.tape, k.grown.output.trans h.grown.output, Nat.le_trans h.grown.size k.grown.size, fun i hi hne => by
    refine (k.grown.block i (Nat.lt_of_lt_of_le hi h.grown.size) fun e => ?_).trans (h.grown.block i hi hne)
    rcases h.at_ i e.symm with h1 | h1
    · exact hne h1.symm
    · omega⟩
  at_ i hi := by
    rcases k.at_ i hi with h1 | h1
    · rcases h.at_ i h1 with h2 | h2
      · exact .inl h2
      · exact .inr ⟨h2.1, Nat.lt_of_lt_of_le h2.2 k.grown.size⟩
    · exact .inr ⟨Nat.le_trans h.grown.size h1.1, h1.2⟩

/-- New memory ahead of it makes no odds. -/
theorem Moves.after {a b c : World} {v t : Value} (h : Below a.heap.size a b) (k : Moves b c v t) : Moves a c v t where
  grown := ⟨k.grown.os.trans h.os, k.grown.tape.trans h.tape, k.grown.output.trans h.output, Nat.le_trans h.size k.grown.size, fun i hi hne =>
    (k.grown.block i (Nat.lt_of_lt_of_le hi h.size) hne).trans (h.block i hi)⟩
  at_ i hi := by
    rcases k.at_ i hi with h1 | h1
    · exact .inl h1
    · exact .inr ⟨Nat.le_trans h.size h1.1, h1.2⟩

theorem Moves.then {a b c : World} {v t : Value} (h : Moves a b v t) (k : Below b.heap.size b c) : Moves a c v t where
  grown := ⟨k.os.trans h.grown.os, k.tape.trans h.grown.tape, k.output.trans h.grown.output, Nat.le_trans h.grown.size k.size, fun i hi hne =>
    (k.block i (Nat.lt_of_lt_of_le hi h.grown.size)).trans (h.grown.block i hi hne)⟩
  at_ i hi := by
    rcases h.at_ i hi with h1 | h1
    · exact .inl h1
    · exact .inr ⟨h1.1, Nat.lt_of_lt_of_le h1.2 k.size⟩

theorem Moves.kept {w w' : World} {v v' : Value} {R : Nat → Prop} (h : Moves w w' v v') (hR : ∀ k, R k → k < w.heap.size ∧ v.ownBlock ≠ some k) : Kept R w w' :=
  ⟨h.grown.os, h.grown.tape, h.grown.output, h.grown.size, fun k hk => h.grown.block k (hR k hk).1 (fun e => (hR k hk).2 e.symm)⟩

theorem own_lt {w : World} {B e size n : Nat} {v : Value} {cs : List Value} (h : w.ownsRow B e size v n cs) : ∀ k, v.ownBlock = some k → k < w.heap.size := fun k hk => (World.ownsRow.lt h k hk).2

section
variable {P : Program} {w : World} {ops : Array Oper} {o : Oper} {a : Act} {K : Act → World → Prop} {Q : Exit → Act → World → Prop}

/-- 'append(s, x...)'. -/
theorem wp_append_at (s x : Operand) (t : TypeId) (hop : o.op = Op.call { callee := Callee.builtin Builtin.append, args := #[s, x], argTypes := #[t, t] })
    (e size bytes : Nat) (z : Value) (h1 : P.underlying t = some (.slice e)) (h2 : (P.info? e).map (fun i => (i.zero, i.size, i.bytes)) = some (some z, size, bytes)) (hz : z.cells.size = size) (hsz : 0 < size)
    (v xv : Value) (n m : Nat) (xs news : List Value) (hs : a.eval s = v) (hx : a.eval x = xv) (hown : w.ownsRow 0 e size v n xs) (hrd : Rd w size xv m news) (hone : ∀ u ∈ news, u.oneCell' = true)
    (hl : (n + m) * bytes ≤ 140737488355328) (hl' : n + m ≤ maxLen)
    (hK : ∀ v' w', w'.ownsRow 0 e size v' (n + m) (xs ++ news) → Moves w w' v v' → K (a.put o.dst v') w') : Oper.wp P o a w K Q := by
  obtain ⟨i0, hi, hz0, hz1, hz2⟩ := info_parts h2
  obtain ⟨ad, cap, rfl, _, _, hlen, h3⟩ := hrd
  cases ad with
  | none =>
    rcases h3 with ⟨rfl, hc⟩ | ⟨b, off, hno, _⟩
    · obtain rfl := hc rfl
      have : news = [] := List.eq_nil_of_length_eq_zero (by simpa using hlen)
      subst this
      have hrun := run_append_owned_none (P := P) (w := w) 0 t o.type e i0 size h1 hi v n xs hown
      unfold Oper.wp
      simp [execOp, hop, resolve, invoke, builtin, hs, hx, hrun, Result.andThen]
      exact hK v w (by simpa using hown) (Moves.refl _ _)
    · cases hno
  | some ad =>
    have hn : ∀ j u, news[j]? = some u → w.cell? (ad.add j) = some u := by
      intro j u hj
      rcases h3 with ⟨rfl, _⟩ | ⟨b, off, hb, _, h5⟩
      · have : news = [] := List.eq_nil_of_length_eq_zero (by simpa using hlen)
        subst this
        simp at hj
      · cases hb
        have hadd : (⟨b, off, none⟩ : Addr).add j = ⟨b, off + j, none⟩ := by unfold Addr.add; split <;> simp_all
        rw [hadd]
        exact h5 j u hj
    obtain ⟨v', w', hr, r2, r3, _, r5⟩ := run_append_own_at (P := P) w 0 t o.type e i0 z size bytes h1 hi hz0 hz1 hz2 hz hsz v n xs hown ad m cap news hlen hn hone hl' hl (Nat.zero_le _)
    unfold Oper.wp execOp
    simp only [hop, resolve, invoke, builtin, Sem.run_bind, Sem.run_pure, Result.andThen_ok, List.map_toArray, List.map_cons, List.map_nil, hs, hx, hr]
    refine hK _ _ r2 ⟨r3, fun k hk => ?_⟩
    rcases r5 with r5 | r5
    · exact .inl (by rw [← r5]; exact hk)
    · rw [r5] at hk; cases hk
      exact .inr ⟨Nat.le_refl _, own_lt r2 _ r5⟩
end
end Go.Proofs.Ytmlijnekidihbaa
