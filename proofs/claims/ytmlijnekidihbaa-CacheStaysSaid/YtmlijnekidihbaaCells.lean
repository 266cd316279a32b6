/-
  Cells of a block that is known whole; maps of names with values, as lists in order.
-/
import Derived.Test.YtmlijnekidihbaaKept
import Derived.Maps.OwnSet
import Derived.Maps.Ext
import Derived.Sort.KeysCollected
namespace Go.Proofs.Ytmlijnekidihbaa
open Go.RowKit

theorem blk_cell {w : World} {p i : Nat} {cs : Array Value} {t : Nat} (h : w.heap[p]? = some (.cells cs t (0, 0))) : w.cell? ⟨p, i, none⟩ = cs[i]? := by
  simp [World.cell?, h]
theorem blk_free {w : World} {p i : Nat} {cs : Array Value} {t : Nat} (h : w.heap[p]? = some (.cells cs t (0, 0))) : w.frozen? ⟨p, i, none⟩ = false := by
  simp [World.frozen?, h]
theorem blk_lt {w : World} {p : Nat} {o : Obj} (h : w.heap[p]? = some o) : p < w.heap.size := (Array.getElem?_eq_some_iff.1 h).1
theorem blk_set {w : World} {p i : Nat} {cs : Array Value} {t : Nat} (h : w.heap[p]? = some (.cells cs t (0, 0))) (u : Value) : (w.setCell ⟨p, i, none⟩ u).heap[p]? = some (.cells (cs.setIfInBounds i u) t (0, 0)) := by
  unfold World.setCell
  simp only [Array.getElem?_modify, if_pos, h, Option.map_some]
  simp
theorem heap_new2 (w : World) (o1 o2 : Obj) : ((w.alloc o1).alloc o2).heap[w.heap.size + 1]? = some o2 := by simpa using heap_alloc_new (w.alloc o1) o2

theorem sameKey_str (a b : List UInt8) : (Lit.string a).sameKey (.string b) = (a == b) := rfl

/-- The block of a map. -/
def mapBlock : Value → Option Nat
  | .map b => b
  | _ => none

theorem belowT {a b c : World} (h : Below a.heap.size a b) (k : Below b.heap.size b c) : Below a.heap.size a c :=
  Kept.below ((Kept.of h (R := fun k => k < a.heap.size) fun _ h => h).trans (Kept.of k (R := fun k => k < a.heap.size) fun _ hi => Nat.lt_of_lt_of_le hi h.size)) fun _ h => h

theorem grown_undrew {w w' : World} {r : Option Nat} (h : w.drew.grownBy w' r) : w.grownBy w' r := ⟨h.os, h.tape, h.output, h.size, h.block⟩

/-- A part of bytes that can be read. -/
theorem sub_rd {w : World} {na : Option Addr} {nc : Nat} {l : List UInt8} (h : RdB w (.slice na l.length nc) l) (i m : Nat) (hi : i ≤ l.length) (hm : m ≤ l.length - i) :
    Rd w 1 (.slice (na.map fun x => x.add i) m (nc - i)) m (((l.drop i).take m).map bv) := by
  have h0 := h
  obtain ⟨a, cap, hv, h1, h2, _, h3⟩ := h
  cases hv
  refine ⟨_, _, rfl, by omega, by omega, by rw [List.length_map, List.length_take, List.length_drop]; omega, ?_⟩
  rcases h3 with ⟨h3, h4⟩ | ⟨b, off, rfl, h4, h5⟩
  · refine .inl ⟨by omega, fun hn => ?_⟩
    cases na with
    | none => have := h4 rfl; omega
    | some _ => cases hn
  · have hadd : (⟨b, off, none⟩ : Addr).add i = ⟨b, off + i, none⟩ := by unfold Addr.add; split <;> simp_all
    refine .inr ⟨b, off + i, by rw [Option.map_some, hadd], h4, fun j u hj => ?_⟩
    have hj' : j < m := by
      rcases Nat.lt_or_ge j m with h | h
      · exact h
      · rw [List.getElem?_eq_none (by simp; omega)] at hj; cases hj
    rw [Nat.add_assoc]
    refine h5 (i + j) u ?_
    rw [← hj]
    simp [hj']


/-! ### Names. -/
/-- One byte of a name. -/
def nmC (c : UInt8) : Bool := (decide (97 ≤ c.toNat) && decide (c.toNat ≤ 122)) || (decide (48 ≤ c.toNat) && decide (c.toNat ≤ 57)) || c.toNat == 45 || c.toNat == 46
/-- Is it a name? -/
def nmOk (s : List UInt8) : Bool := s.all nmC && decide (1 ≤ s.length) && decide (s.length ≤ 40)


theorem all_take_succ (l : List UInt8) (k : Nat) (hk : k < l.length) : (l.take (k + 1)).all nmC = ((l.take k).all nmC && nmC (l.getD k 0)) := by
  rw [List.take_succ_eq_append_getElem hk, List.all_append]
  simp [List.getD, hk]

set_option maxRecDepth 10000 in
theorem all_of_not {l : List UInt8} {k : Nat} (hk : k < l.length) (h : nmC (l.getD k 0) = false) : l.all nmC = false := by
  rw [List.all_eq_false]
  refine ⟨l.getD k 0, ?_, by rw [h]; simp⟩
  simp [List.getD, hk]

theorem size_list (s : ByteArray) : s.data.toList.length = s.size := by rw [Array.length_toList]; rfl
theorem getD_list (s : ByteArray) (k : Nat) (h : k < s.size) : s.data.toList.getD k 0 = s[k] := by
  have h' : k < s.data.toList.length := by rw [size_list]; exact h
  show (s.data.toList[k]?).getD 0 = _
  rw [List.getElem?_eq_getElem h', Array.getElem_toList]
  rfl


theorem nm_c1 {c : UInt8} (h1 : (97 : Int) ≤ (c.toNat : Int)) (h2 : (c.toNat : Int) ≤ 122) : nmC c = true := by
  simp [nmC]; omega
theorem nm_c2 {c : UInt8} (h1 : (48 : Int) ≤ (c.toNat : Int)) (h2 : (c.toNat : Int) ≤ 57) : nmC c = true := by
  simp [nmC]; omega
theorem nm_c3 {c : UInt8} (h1 : (c.toNat : Int) = 45) : nmC c = true := by
  simp [nmC]; omega
theorem nm_c4 {c : UInt8} (h1 : (c.toNat : Int) = 46) : nmC c = true := by
  simp [nmC]; omega

/-- The ways of one byte. -/
theorem nm_ways (c : UInt8) : (nmC c = false ∧ (((c.toNat : Int) < 97 ∧ ((c.toNat : Int) < 48) ∧ (c.toNat : Int) ≠ 45 ∧ (c.toNat : Int) ≠ 46) ∨ ((c.toNat : Int) < 97 ∧ 57 < (c.toNat : Int)) ∨ 122 < (c.toNat : Int))) ∨
    (nmC c = true ∧ ((97 ≤ (c.toNat : Int) ∧ (c.toNat : Int) ≤ 122) ∨ (48 ≤ (c.toNat : Int) ∧ (c.toNat : Int) ≤ 57) ∨ (c.toNat : Int) = 45 ∨ (c.toNat : Int) = 46)) := by
  cases h : nmC c with
  | true =>
    right
    refine ⟨rfl, ?_⟩
    simp [nmC] at h
    omega
  | false =>
    left
    refine ⟨rfl, ?_⟩
    simp [nmC] at h
    omega


/-! ### Names with values, in order. -/
section
variable {β : Type}

def nfind (l : List (List UInt8 × β)) (n : List UInt8) : Option β := (l.find? fun x => x.1 == n).map (·.2)
def nwithout (l : List (List UInt8 × β)) (n : List UInt8) : List (List UInt8 × β) := l.filter fun x => !(x.1 == n)
def nput : List (List UInt8 × β) → List UInt8 → β → List (List UInt8 × β)
  | [], n, b => [(n, b)]
  | x :: r, n, b => if bytesBefore n x.1 then (n, b) :: x :: r else x :: nput r n b
def nwith (l : List (List UInt8 × β)) (n : List UInt8) (b : β) : List (List UInt8 × β) := nput (nwithout l n) n b

def mapN (f : β → DataW Unit) (l : List (List UInt8 × β)) : DataW Unit := .map (l.map fun x => (Lit.string x.1, f x.2))

theorem mapN_put (f : β → DataW Unit) (l : List (List UInt8 × β)) (n : List UInt8) (b : β) : (mapN f l).put (.string n) (f b) = mapN f (nwith l n b) := by
  have hf : ((l.map fun x => (Lit.string x.1, f x.2)).filter fun p => !p.1.sameKey (.string n)) = (nwithout l n).map fun x => (Lit.string x.1, f x.2) := by
    unfold nwithout
    rw [List.filter_map]
    rfl
  have hi : ∀ r : List (List UInt8 × β), DataW.insert (Lit.string n, f b) (r.map fun x => (Lit.string x.1, f x.2)) = (nput r n b).map fun x => (Lit.string x.1, f x.2) := by
    intro r
    induction r with
    | nil => rfl
    | cons x r ih =>
      have hb : (Lit.string n).before (Lit.string x.1) = bytesBefore n x.1 := rfl
      simp only [List.map_cons, DataW.insert, nput]
      rw [hb]
      by_cases h : bytesBefore n x.1 = true
      · rw [if_pos h, if_pos h]; rfl
      · rw [if_neg h, if_neg h, ih]; rfl
  unfold mapN DataW.put nwith
  simp only
  rw [hf, hi]

theorem mapN_del (f : β → DataW Unit) (l : List (List UInt8 × β)) (n : List UInt8) : (mapN f l).del (.string n) = mapN f (nwithout l n) := by
  unfold mapN DataW.del nwithout
  simp only
  rw [List.filter_map]
  rfl

theorem mapN_has (f : β → DataW Unit) (l : List (List UInt8 × β)) (n : List UInt8) : Maps.has (mapN f l) (.string n) = (nfind l n).isSome := by
  unfold mapN
  rw [Maps.has_eq, List.any_map]
  unfold nfind
  rw [Option.isSome_map, List.isSome_find?]
  rfl

theorem mapN_at (f : β → DataW Unit) (l : List (List UInt8 × β)) (n : List UInt8) (z : DataW Unit) : (mapN f l).atKey (.string n) z = (match nfind l n with | some b => f b | none => z) := by
  unfold mapN DataW.atKey
  simp only
  rw [List.find?_map]
  have : (fun x => (x : Lit × DataW Unit).1.sameKey (.string n)) ∘ (fun x : List UInt8 × β => (Lit.string x.1, f x.2)) = fun x => x.1 == n := rfl
  rw [this]
  unfold nfind
  cases l.find? fun x => x.1 == n <;> rfl

theorem mapN_size (f : β → DataW Unit) (l : List (List UInt8 × β)) : Maps.size (mapN f l) = l.length := by simp [mapN, Maps.size]
theorem mapN_keys (f : β → DataW Unit) (l : List (List UInt8 × β)) : strKeys (mapN f l) = l.map (·.1) := by
  simp only [mapN, strKeys, List.map_map]
  rfl
end
end Go.Proofs.Ytmlijnekidihbaa
