/-
  A set of keys: a map of texts with nothing.
-/
import Derived.Test.YtpbmacbogmnokaaOpsSort
import Derived.Test.YtpbmacbogmnokaaCells
import Derived.Maps.RangeWalk
import Derived.StringKeys
namespace Go.Proofs.Ytpbmacbogmnokaa
open Go.RowKit

/-- Nothing, as the model's value. -/
def seenElem : Value → Option (DataW Unit × List MemPlace)
  | .agg cs => if cs.toList = [] then some (.agg [], []) else none
  | _ => none

theorem seenElem_mk : seenElem (.agg #[]) = some (.agg [], []) := by simp [seenElem]

theorem seenElem_inv {v : Value} {d : DataW Unit} {ps : List MemPlace} (h : seenElem v = some (d, ps)) : v = .agg #[] := by
  unfold seenElem at h
  split at h
  · rename_i cs
    split at h
    · rename_i hs
      have : cs = #[] := Array.toList_inj.1 hs
      rw [this]
    · cases h
  · cases h

def seenD (_ : Unit) : DataW Unit := .agg []

/-- The map in block 'b' tells the keys of 's'. -/
def Sm (w : World) (b : Nat) (s : List (List UInt8 × Unit)) : Prop := w.ownsMap Try.prog 9 seenElem b s.length (mapN seenD s)

theorem Sm.kept {R : Nat → Prop} {w w' : World} {b : Nat} {s : List (List UInt8 × Unit)} (h : Sm w b s) (hk : Kept R w w') (hR : R b) : Sm w' b s := by
  obtain ⟨es, clock, hb, r⟩ := h
  exact ⟨es, clock, (hk.block b hR).trans hb, r⟩

theorem Sm.below {w w' : World} {b B : Nat} {s : List (List UInt8 × Unit)} (h : Sm w b s) (hk : Below B w w') (hb : b < B) : Sm w' b s := by
  obtain ⟨es, clock, h1, r⟩ := h
  exact ⟨es, clock, (hk.block b hb).trans h1, r⟩

theorem zero_seen (w : World) : (zeroValue 81).run Try.prog w = .ok (.agg #[]) w := by kernel_rfl

theorem key_seen (s : ByteArray) (hs : s.size ≤ maxLen) : keyOf Try.prog 9 (.string s) = some (.string s.data.toList) := WideMaps.keyOf_string_mk Try.underlying9 hs

theorem sm_look {w : World} {b : Nat} {l : List (List UInt8 × Unit)} (h : Sm w b l) (s : ByteArray) (hs : s.size ≤ maxLen) {c : Bool} (hc : (nfind l s.data.toList).isSome = c) :
    (Instr.lookup 80 (.map (some b)) (.string s) true).run Try.prog w = .ok (.tuple #[.agg #[], .bool c]) w := by
  obtain ⟨u, ps, hrun, hv⟩ := h.look_ok (t := 80) (Maps.string_keyed Try.underlying9) Try.underlying80 (zero_seen w) seenElem_mk (key_seen s hs)
  rw [hrun, mapN_has, hc, seenElem_inv hv]

theorem nfind_nwithout {β : Type} (l : List (List UInt8 × β)) (n q : List UInt8) : nfind (nwithout l n) q = if n = q then none else nfind l q := by
  unfold nfind nwithout
  induction l with
  | nil => simp
  | cons x r ih =>
    rw [List.filter_cons]
    by_cases h1 : x.1 = n
    · rw [if_neg (by simp [h1]), ih]
      by_cases h2 : n = q
      · rw [if_pos h2, if_pos h2]
      · rw [if_neg h2, if_neg h2, List.find?_cons]
        have : (x.1 == q) = false := by simp [h1, h2]
        rw [this]
    · rw [if_pos (by simp [h1]), List.find?_cons, List.find?_cons]
      by_cases h2 : x.1 = q
      · have h3 : ¬ n = q := fun h3 => h1 (h2.trans h3.symm)
        rw [if_neg h3]
        have : (x.1 == q) = true := by simp [h2]
        rw [this]
      · have : (x.1 == q) = false := by simp [h2]
        rw [this]
        exact ih

theorem nfind_nput {β : Type} (l : List (List UInt8 × β)) (n q : List UInt8) (b : β) (hn : nfind l n = none) : nfind (nput l n b) q = if n = q then some b else nfind l q := by
  induction l with
  | nil =>
    unfold nput nfind
    by_cases h : n = q <;> simp [h]
  | cons x r ih =>
    have hx : x.1 ≠ n := by
      intro h
      unfold nfind at hn
      simp [h] at hn
    have hr : nfind r n = none := by
      unfold nfind at hn ⊢
      rw [List.find?_cons] at hn
      have : (x.1 == n) = false := by simp [hx]
      rw [this] at hn
      exact hn
    unfold nput
    split
    · unfold nfind
      rw [List.find?_cons]
      by_cases h : n = q
      · simp [h]
      · have : (n == q) = false := by simp [h]
        rw [if_neg h]
        simp only [this]
    · have ih := ih hr
      unfold nfind at ih ⊢
      rw [List.find?_cons, List.find?_cons]
      by_cases h : x.1 = q
      · have h3 : ¬ n = q := fun h3 => hx (h.trans h3.symm)
        have : (x.1 == q) = true := by simp [h]
        rw [if_neg h3, this]
      · have : (x.1 == q) = false := by simp [h]
        rw [this]
        exact ih

theorem nfind_nwith {β : Type} (l : List (List UInt8 × β)) (n q : List UInt8) (b : β) : nfind (nwith l n b) q = if n = q then some b else nfind l q := by
  unfold nwith
  rw [nfind_nput _ _ _ _ (by rw [nfind_nwithout, if_pos rfl]), nfind_nwithout]
  split <;> rfl

theorem nput_more {β : Type} (n : List UInt8) (b : β) : ∀ l : List (List UInt8 × β), (nput l n b).length = l.length + 1
  | [] => rfl
  | x :: r => by
    unfold nput
    split
    · rfl
    · rw [List.length_cons, nput_more n b r, List.length_cons]

theorem nwith_len {β : Type} (l : List (List UInt8 × β)) (n : List UInt8) (b : β) : (nwith l n b).length ≤ l.length + 1 := by
  unfold nwith
  rw [nput_more]
  have : (nwithout l n).length ≤ l.length := List.length_filter_le _ _
  omega

theorem own_exactS {w : World} {b n : Nat} {l : List (List UInt8 × Unit)} (h : w.ownsMap Try.prog 9 seenElem b n (mapN seenD l)) : Sm w b l := by
  obtain ⟨es, clock, hb, F, hs, hD⟩ := h
  refine ⟨es, clock, hb, F, ?_, hD⟩
  have := congrArg Maps.size hD
  rw [mapN_size] at this
  simp [Maps.size, length_sorted] at this
  omega

section
variable {w : World} {o : Oper} {a : Act} {K : Act → World → Prop} {Q : Exit → Act → World → Prop}

/-- 'm[n] = struct{}{}'. -/
theorem wp_sm_put (m x v : Operand) (t : TypeId) (hop : o.op = Op.mapUpdate t m x v) (b : Nat) (l : List (List UInt8 × Unit)) (n : ByteArray) (ht : t = 80) (hm : a.eval m = .map (some b)) (hx : a.eval x = .string n) (hv : a.eval v = .agg #[]) (hn : n.size ≤ maxLen)
    (h : Sm w b l) (hl : l.length < maxLen) (hK : ∀ w', Sm w' b (nwith l n.data.toList ()) → w.grownBy w' (some b) → w'.heap.size = w.heap.size → K (a.put o.dst undef) w') : Oper.wp Try.prog o a w K Q := by
  subst ht
  obtain ⟨w', hrun, r1, r2⟩ := h.store (t := 80) (Maps.string_keyed Try.underlying9) Try.underlying80 hl (key_seen n hn) seenElem_mk
  unfold Oper.wp
  simp [execOp, hop, hm, hx, hv, hrun, Result.andThen]
  have e2 : (DataW.agg [] : DataW Unit) = seenD () := rfl
  rw [e2, mapN_put] at r1
  refine hK w' (own_exactS r1) r2.grown ?_
  obtain ⟨es, clock, es', clock', hb, rfl⟩ := r2
  simp [ChangeMaps.setBlock]
end
end Go.Proofs.Ytpbmacbogmnokaa
