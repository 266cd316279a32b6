/-
  The program's far store in memory.
-/
import Derived.Test.YtljjgpjaleekdaaGreatDoorFarModel
import Derived.Test.YtljjgpjaleekdaaGreatDoorProg
namespace Go.Proofs.YtljjgpjaleekdaaGreatDoor
open Go.RowKit

/-- An object as the model's value. -/
def objElem : Value → Option (DataW Unit × List MemPlace)
  | .agg cs => match cs.toList with
    | [.string s] => if s.size ≤ maxLen then some (.agg [.lit (.string s.data.toList)], []) else none
    | _ => none
  | _ => none

theorem objElem_mk {s : ByteArray} (h : s.size ≤ maxLen) : objElem (.agg #[.string s]) = some (.agg [.lit (.string s.data.toList)], []) := by
  simp [objElem, h]

theorem objElem_inv {v : Value} {b : List UInt8} {ps : List MemPlace} (h : objElem v = some (.agg [.lit (.string b)], ps)) : v = .agg #[.string (strB b)] ∧ b.length ≤ maxLen := by
  unfold objElem at h
  split at h
  · rename_i cs
    split at h
    · rename_i s hs
      split at h
      · rename_i hsz
        simp only [Option.some.injEq, Prod.mk.injEq, DataW.agg.injEq, List.cons.injEq, DataW.lit.injEq, Lit.string.injEq, and_true] at h
        obtain ⟨h1, _⟩ := h
        subst h1
        refine ⟨?_, by rw [Array.length_toList]; exact hsz⟩
        have : cs = #[.string s] := Array.toList_inj.1 hs
        rw [this]
      · cases h
    · cases h
  · cases h

def objD (b : List UInt8) : DataW Unit := .agg [.lit (.string b)]

/-- The map 'v' (nil or not) tells the objects 'l'. -/
def Om (w : World) (v : Value) (l : List (List UInt8 × List UInt8)) : Prop := (v = .map none ∧ l = []) ∨ ∃ b, v = .map (some b) ∧ w.ownsMap Tryz.prog 9 objElem b l.length (mapN objD l)

theorem Om.kept {R : Nat → Prop} {w w' : World} {v : Value} {l : List (List UInt8 × List UInt8)} (h : Om w v l) (hk : Kept R w w') (hR : ∀ k, mapBlock v = some k → R k) : Om w' v l := by
  rcases h with h | ⟨b, rfl, hm⟩
  · exact .inl h
  · obtain ⟨es, clock, hb, r⟩ := hm
    exact .inr ⟨b, rfl, es, clock, (hk.block b (hR b rfl)).trans hb, r⟩

theorem Om.form {w : World} {v : Value} {l : List (List UInt8 × List UInt8)} (h : Om w v l) : ∃ b, v = .map b := by
  rcases h with ⟨rfl, _⟩ | ⟨b, rfl, _⟩
  · exact ⟨_, rfl⟩
  · exact ⟨_, rfl⟩

theorem Om.lt {w : World} {v : Value} {l : List (List UInt8 × List UInt8)} (h : Om w v l) : ∀ k, mapBlock v = some k → k < w.heap.size := by
  intro k hk
  rcases h with ⟨rfl, _⟩ | ⟨b, rfl, hm⟩
  · cases hk
  · cases hk; exact hm.lt

/-- The block of a map is none of cells. -/
theorem Om.ne {w : World} {v : Value} {l : List (List UInt8 × List UInt8)} (h : Om w v l) {p : Nat} {cs : Array Value} {t : Nat} {m : Nat × Nat} (hp : w.heap[p]? = some (.cells cs t m)) : mapBlock v ≠ some p := by
  intro e
  rcases h with ⟨rfl, _⟩ | ⟨b, rfl, es, clock, hb, _⟩
  · cases e
  · cases e
    rw [hb] at hp
    cases hp

/-- Names in order. -/
def Srt {β : Type} (l : List (List UInt8 × β)) : Prop := l.Pairwise fun x y => bytesBefore x.1 y.1 = true

theorem Om.srt {w : World} {v : Value} {l : List (List UInt8 × List UInt8)} (h : Om w v l) : Srt l := by
  rcases h with ⟨_, rfl⟩ | ⟨b, _, hm⟩
  · exact List.Pairwise.nil
  · obtain ⟨es, he, hp, _⟩ := hm.canon (Maps.string_keyed Tryz.underlying9)
    unfold mapN at he
    cases he
    exact (List.pairwise_map.1 hp).imp fun h => h

/-- Outcomes that are left. -/
def Lf (w : World) (v : Value) (l : List Int) : Prop := Rd w 1 v l.length (l.map (Value.int .i64))

theorem Lf.form {w : World} {v : Value} {l : List Int} (h : Lf w v l) : ∃ a cap, v = .slice a l.length cap ∧ l.length ≤ cap ∧ cap ≤ maxLen := by
  obtain ⟨a, cap, rfl, h1, h2, _⟩ := h
  exact ⟨a, cap, rfl, h1, h2⟩

/-- A far store lies at 'p'; 'G': its blocks (and maybe more). -/
structure FarAt (G : Nat → Prop) (w : World) (p : Nat) (f : FR) : Prop where
  ex : ∃ mv lv, w.heap[p]? = some (.cells #[mv, lv, .int .i64 (f.calls : Int)] 45 (0, 0)) ∧ Om w mv f.objs ∧ Lf w lv f.left ∧ (∀ k, mapBlock mv = some k → G k) ∧ (∀ k, lv.ownBlock = some k → G k ∧ k ≠ p)
  gp : G p
  lt : ∀ k, G k → k < w.heap.size

theorem FarAt.kept {G : Nat → Prop} {w w' : World} {p : Nat} {f : FR} {R : Nat → Prop} (h : FarAt G w p f) (hk : Kept R w w') (hR : ∀ k, G k → R k) : FarAt G w' p f := by
  obtain ⟨⟨mv, lv, h1, h2, h3, h4, h5⟩, gp, lt⟩ := h
  exact ⟨⟨mv, lv, (hk.block p (hR p gp)).trans h1, h2.kept hk fun k e => hR k (h4 k e), Rd.kept h3 hk fun k e => hR k (h5 k e).1, h4, h5⟩, gp, fun k hk' => Nat.lt_of_lt_of_le (lt k hk') hk.size⟩

theorem FarAt.touch {G : Nat → Prop} {w w' : World} {p : Nat} {f : FR} {F : Nat → Prop} (h : FarAt G w p f) (hk : Touch F w w') (hF : ∀ k, G k → ¬ F k) : FarAt G w' p f :=
  h.kept (R := G) (Kept.mono hk fun k hk' => ⟨h.lt k hk', hF k hk'⟩) fun _ h => h

theorem FarAt.below {G : Nat → Prop} {w w' : World} {p : Nat} {f : FR} (h : FarAt G w p f) (hb : Below w.heap.size w w') : FarAt G w' p f :=
  h.kept (R := G) (Kept.of hb fun k hk => h.lt k hk) fun _ h => h

/-- A call on the object: what it leaves. -/
def FarTo (G : Nat → Prop) (w w' : World) (p : Nat) (f : FR) : Prop := ∃ G', FarAt G' w' p f ∧ Touch G w w' ∧ Grows G G' w w'

theorem FarTo.of_below {G : Nat → Prop} {w w' : World} {p : Nat} {f : FR} (h : FarAt G w p f) (hb : Below w.heap.size w w') : FarTo G w w' p f := ⟨G, h.below hb, Touch.of_below hb, Grows.refl _ _ _⟩

theorem FarTo.trans {G G1 : Nat → Prop} {w w1 w' : World} {p : Nat} {f : FR} (ht : Touch G w w1) (hg : Grows G G1 w w1) (h : FarTo G1 w1 w' p f) : FarTo G w w' p f := by
  obtain ⟨G2, h1, h2, h3⟩ := h
  exact ⟨G2, h1, ht.trans h2 hg, hg.trans h3 ht.size h2.size⟩

/-- The map's cell is set anew. -/
theorem FarAt.set_map {G G' : Nat → Prop} {w w' : World} {p : Nat} {f : FR} {l : List (List UInt8 × List UInt8)} (h : FarAt G w p f) {mv lv mv' : Value} (hp : w.heap[p]? = some (.cells #[mv, lv, .int .i64 (f.calls : Int)] 45 (0, 0)))
    (hp' : w'.heap[p]? = some (.cells #[mv', lv, .int .i64 (f.calls : Int)] 45 (0, 0))) (hk : Kept (fun k => k < w.heap.size ∧ k ≠ p ∧ mapBlock mv ≠ some k) w w') (hm : Om w' mv' l) (hG : ∀ k, G k → G' k) (hG' : ∀ k, G' k → k < w'.heap.size) (hb : ∀ k, mapBlock mv' = some k → G' k) : FarAt G' w' p ⟨l, f.left, f.calls⟩ := by
  obtain ⟨⟨mv0, lv0, h1, h2, h3, h4, h5⟩, gp, lt⟩ := h
  rw [hp] at h1
  simp only [Option.some.injEq, Obj.cells.injEq, and_true] at h1
  have e1 : mv = mv0 := Option.some.inj (show some mv = some mv0 from congrArg (fun a : Array Value => a[0]?) h1)
  have e2 : lv = lv0 := Option.some.inj (show some lv = some lv0 from congrArg (fun a : Array Value => a[1]?) h1)
  subst e1; subst e2
  refine ⟨⟨mv', lv, hp', hm, ?_, hb, fun k e => ⟨hG k (h5 k e).1, (h5 k e).2⟩⟩, hG p gp, hG'⟩
  by_cases h0 : f.left.length = 0
  · obtain ⟨a, cap, rfl, q1, q2, q3, q4⟩ := h3
    refine ⟨a, cap, rfl, q1, q2, q3, ?_⟩
    rcases q4 with q4 | ⟨b, off, rfl, q5, q6⟩
    · exact .inl q4
    · refine .inr ⟨b, off, rfl, by have := hk.size; omega, fun j u hj => ?_⟩
      have : f.left = [] := List.eq_nil_of_length_eq_zero h0
      rw [this] at hj
      simp at hj
  · refine Rd.kept h3 hk fun k e => ⟨lt k (h5 k e).1, (h5 k e).2, fun em => ?_⟩
    obtain ⟨a, cap, rfl, q1, q2, q3, q4⟩ := h3
    rcases q4 with q4 | ⟨b, off, rfl, q5, q6⟩
    · exact h0 q4.1
    · cases e
      have hc := q6 0 _ (List.getElem?_eq_getElem (by simpa using Nat.pos_of_ne_zero h0))
      rcases h2 with ⟨rfl, _⟩ | ⟨b', rfl, es, clock, hb', _⟩
      · cases em
      · cases em
        simp [World.cell?, hb'] at hc
end Go.Proofs.YtljjgpjaleekdaaGreatDoor
