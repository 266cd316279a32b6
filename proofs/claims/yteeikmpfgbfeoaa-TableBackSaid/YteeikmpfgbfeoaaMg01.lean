import Derived.Test.YteeikmpfgbfeoaaBlkGet
import Derived.Test.YteeikmpfgbfeoaaRefFixed
import Derived.Test.YteeikmpfgbfeoaaMg00
import Derived.Test.YteeikmpfgbfeoaaOwnEnt
import Derived.Test.YteeikmpfgbfeoaaKeyRefCmp
import Derived.Test.YteeikmpfgbfeoaaRegion
import Derived.Deep.Cut
import Derived.WalkKit
import Derived.Laws.DeepBits32
import Derived.Test.YteeikmpfgbfeoaaNumMath
import Derived.Test.YteeikmpfgbfeoaaMoves
import Derived.Test.YteeikmpfgbfeoaaWords

/-
  Blocks: plain facts: the entries are told one by one.
-/
namespace Go.Proofs.Yteeikmpfgbfeoaa
open Go.RowKit

/-- So far the entries are those of any block that these bytes can be the body of; the next one begins at p. -/
def Par (c : List UInt8) (acc : List Ent) (p : Nat) : Prop := ∀ es, IsBody c es → acc.length ≤ es.length ∧ acc = es.take acc.length ∧ p = (bodyN es acc.length).length

theorem Par.start (c : List UInt8) : Par c [] 0 := fun _ _ => ⟨Nat.zero_le _, rfl, rfl⟩
theorem prevU_acc {acc es : List Ent} (h : acc = es.take acc.length) : prevU acc acc.length = prevU es acc.length := by
  have := prevU_take es (Nat.le_refl acc.length)
  rw [← h] at this
  exact this
theorem Par.none_ {c : List UInt8} {acc : List Ent} {p : Nat} (h : Par c acc p) (hp : p < c.length) (hs : stepP c (prevU acc acc.length) p = none) (es : List Ent) : ¬ IsBody c es := by
  intro hb
  obtain ⟨h1, h2, h3⟩ := h es hb
  have hlt : acc.length < es.length := (hb.at_end h1).1 (by rw [← h3]; exact hp)
  have := hb.step hlt
  rw [← prevU_acc h2, ← h3, hs] at this
  cases this
theorem Par.more {c : List UInt8} {acc : List Ent} {p q : Nat} {e : Ent} (h : Par c acc p) (hp : p < c.length) (hs : stepP c (prevU acc acc.length) p = some (e, q)) : Par c (acc ++ [e]) q := by
  intro es hb
  obtain ⟨h1, h2, h3⟩ := h es hb
  have hlt : acc.length < es.length := (hb.at_end h1).1 (by rw [← h3]; exact hp)
  have := hb.step hlt
  rw [← prevU_acc h2, ← h3, hs] at this
  simp only [Option.some.injEq, Prod.mk.injEq] at this
  have hl : (acc ++ [e]).length = acc.length + 1 := by simp
  rw [hl]
  refine ⟨hlt, ?_, this.2⟩
  rw [take_more es hlt, ← h2, this.1]
theorem Par.end_ {c : List UInt8} {acc : List Ent} {p : Nat} (h : Par c acc p) (hp : ¬ p < c.length) {es : List Ent} (hb : IsBody c es) : es = acc := by
  obtain ⟨h1, h2, h3⟩ := h es hb
  have : ¬ acc.length < es.length := fun hlt => hp (by rw [h3]; exact (hb.at_end h1).2 hlt)
  rw [h2, List.take_of_length_le (by omega)]

theorem prevU_snoc (acc : List Ent) (e : Ent) : prevU (acc ++ [e]) (acc.length + 1) = uL e := by
  unfold prevU
  rw [if_neg (by omega)]
  simp [List.getD]

/-- What the last two bytes of a block tell. -/
theorem IsBlk.count {b : List UInt8} {es : List Ent} (h : IsBlk b es) : 2 ≤ b.length ∧ 1 ≤ valL (b.drop (b.length - 2)) ∧ 4 * valL (b.drop (b.length - 2)) + 2 ≤ b.length := by
  obtain ⟨h1, h2, h3⟩ := putErr_ok h.1
  have hpos := List.length_pos_iff.2 h2
  have hl := blockL_len es
  have hc := blockL_count es h3
  rw [← h.2, hc, hl]
  omega

/-- What the rest tells, by what the four reads tell. -/
theorem step_by {c last : List UInt8} {p s a d x f g : Nat} {rest v : List UInt8} (h1 : getAt c (p : Int) = some (s, a)) (h2 : textAt c (a : Int) = some (rest, d)) (h3 : getAt c (d : Int) = some (x, f)) (h4 : textAt c (f : Int) = some (v, g)) :
    stepP c last p = if last.length < s then none else some (⟨strB (last.take s ++ rest), ((x / 2 : Nat) : Int), ((1 + x % 2 : Nat) : Int), strB v⟩, g) := by
  unfold stepP
  rw [h1]; simp only
  rw [h2]; simp only
  rw [h3]; simp only
  rw [h4]
theorem step_no1 {c last : List UInt8} {p : Nat} (h1 : getAt c (p : Int) = none) : stepP c last p = none := by unfold stepP; rw [h1]
theorem step_no2 {c last : List UInt8} {p s a : Nat} (h1 : getAt c (p : Int) = some (s, a)) (h2 : textAt c (a : Int) = none) : stepP c last p = none := by unfold stepP; rw [h1]; simp only; rw [h2]
theorem step_no3 {c last : List UInt8} {p s a d : Nat} {rest : List UInt8} (h1 : getAt c (p : Int) = some (s, a)) (h2 : textAt c (a : Int) = some (rest, d)) (h3 : getAt c (d : Int) = none) : stepP c last p = none := by
  unfold stepP; rw [h1]; simp only; rw [h2]; simp only; rw [h3]
theorem step_no4 {c last : List UInt8} {p s a d x f : Nat} {rest : List UInt8} (h1 : getAt c (p : Int) = some (s, a)) (h2 : textAt c (a : Int) = some (rest, d)) (h3 : getAt c (d : Int) = some (x, f)) (h4 : textAt c (f : Int) = none) : stepP c last p = none := by
  unfold stepP; rw [h1]; simp only; rw [h2]; simp only; rw [h3]; simp only; rw [h4]

/-- What a number at a place is, as three letters. -/
theorem ans3_form (c : List UInt8) (at_ : Int) : ∃ (n k : Nat) (ok : Bool), ans3 (getAt c at_) = .tuple #[.int .i64 (n : Int), .int .i64 (k : Int), .bool ok] ∧ (ok = true → getAt c at_ = some (n, k) ∧ at_ < (k : Int)) ∧ (ok = false → getAt c at_ = none) ∧ n ≤ 9223372036854775807 ∧ k ≤ c.length := by
  cases h : getAt c at_ with
  | none => exact ⟨0, 0, false, rfl, (fun e => by cases e), (fun _ => rfl), by omega, Nat.zero_le _⟩
  | some x =>
    obtain ⟨n, k⟩ := x
    obtain ⟨p, hp, h1, h2, h0, _, h4⟩ := getAt_some h
    exact ⟨n, k, true, rfl, fun _ => ⟨rfl, by omega⟩, (fun e => by cases e), by omega, by omega⟩
theorem textAt_bound {c : List UInt8} {at_ : Int} {s : List UInt8} {k : Nat} (h : textAt c at_ = some (s, k)) : s.length ≤ c.length ∧ k ≤ c.length ∧ at_ < (k : Int) := by
  unfold textAt at h
  obtain ⟨⟨n, a⟩, hg, hb⟩ := Option.bind_eq_some_iff.1 h
  obtain ⟨p, hp, h1, h2, _⟩ := getAt_some hg
  simp only at hb
  split at hb
  · rename_i hn
    simp only [Option.some.injEq, Prod.mk.injEq] at hb
    obtain ⟨rfl, rfl⟩ := hb
    rw [List.length_take, List.length_drop]
    omega
  · cases hb
theorem ansT_form (c : List UInt8) (at_ : Int) : ∃ (s : List UInt8) (k : Nat) (ok : Bool), ansT (textAt c at_) = .tuple #[.string (strB s), .int .i64 (k : Int), .bool ok] ∧ (ok = true → textAt c at_ = some (s, k) ∧ at_ < (k : Int)) ∧ (ok = false → textAt c at_ = none) ∧ s.length ≤ c.length ∧ k ≤ c.length := by
  cases h : textAt c at_ with
  | none => exact ⟨[], 0, false, rfl, (fun e => by cases e), (fun _ => rfl), Nat.zero_le _, Nat.zero_le _⟩
  | some x =>
    obtain ⟨s, k⟩ := x
    obtain ⟨h1, h2, h3⟩ := textAt_bound h
    exact ⟨s, k, true, rfl, fun _ => ⟨rfl, h3⟩, (fun e => by cases e), h1, h2⟩
end Go.Proofs.Yteeikmpfgbfeoaa

/-
  Blocks: the entry that four reads tell.
-/
namespace Go.Proofs.Yteeikmpfgbfeoaa
open Go.RowKit

/-- The entry that the four reads tell. -/
def ent_by (L : ByteArray) (s x : Nat) (rs vs : List UInt8) : Ent := ⟨L.extract 0 s ++ strB rs, (x : Int) / 2, 1 + (x : Int) % 2, strB vs⟩
theorem ent_same {L : ByteArray} {s x : Nat} {rs vs last : List UInt8} (h : L = strB last) : ent_by L s x rs vs = ⟨strB (last.take s ++ rs), ((x / 2 : Nat) : Int), ((1 + x % 2 : Nat) : Int), strB vs⟩ := by
  unfold ent_by
  have h1 : L.extract 0 s ++ strB rs = strB (last.take s ++ rs) := by
    rw [h]
    apply ByteArray.ext
    apply Array.ext'
    simp [ByteArray.data_extract, List.extract_eq_take_drop]
  rw [h1, show (x : Int) / 2 = ((x / 2 : Nat) : Int) by omega, show 1 + (x : Int) % 2 = ((1 + x % 2 : Nat) : Int) by omega]
theorem ent_len {L : ByteArray} {s : Nat} {rs : List UInt8} : (L.extract 0 s ++ strB rs).size ≤ L.size + rs.length := by
  have h : (L.extract 0 s).data.toList.length ≤ L.size := by
    rw [ByteArray.data_extract, Array.toList_extract, List.extract_eq_take_drop, List.length_take]
    simp only [List.drop_zero, Array.length_toList]
    show min _ L.size ≤ L.size
    omega
  rw [ByteArray.size_append, strB_size]
  show (L.extract 0 s).data.toList.length + rs.length ≤ _
  omega
theorem ent_fits {L : ByteArray} {s x : Nat} {rs vs : List UInt8} (hL : L.size ≤ 100000000) (hx : x ≤ 9223372036854775807) (hr : rs.length ≤ 1000000) (hv : vs.length ≤ 1000000) : (ent_by L s x rs vs).fits := by
  have := ent_len (L := L) (s := s) (rs := rs)
  refine ⟨?_, ?_, ?_, ?_⟩
  · show (L.extract 0 s ++ strB rs).size ≤ maxLen
    unfold maxLen
    omega
  · show (strB vs).size ≤ maxLen
    rw [strB_size]
    unfold maxLen
    omega
  · show (Lit.int .i64 ((x : Int) / 2)).wf = true
    simp only [Lit.wf, IntKind.min, IntKind.max, IntKind.signed, IntKind.bits]
    simp
    omega
  · show (Lit.int .i64 (1 + (x : Int) % 2)).wf = true
    simp only [Lit.wf, IntKind.min, IntKind.max, IntKind.signed, IntKind.bits]
    simp
    omega

end Go.Proofs.Yteeikmpfgbfeoaa

/-
  What num.Fixed and num.GetFixed, and the document's answers, do where there is nothing; what the document's GetFixed does.
-/
namespace Go.Proofs.Yteeikmpfgbfeoaa
open Go.RowKit

set_option maxRecDepth 100000 in
theorem getFixed_out (v : Value) (l : List UInt8) (at_ size : Int) (hs : -9223372036854775808 ≤ size ∧ size ≤ 9223372036854775807) (h : size < 1 ∨ 7 < size ∨ at_ < 0 ∨ (l.length : Int) - size < at_) (w : World) (hv : RdB w v l) :
    Calls Try.prog 49 #[v, .int .i64 at_, .int .i64 size] w fun e w' => e = .returned (.tuple #[.int .i64 0, .bool false]) ∧ w = w' := by
  obtain ⟨a, cap, rfl, hc1, hc2⟩ := hv.form
  unfold maxLen at hc2
  by_cases h1 : size < 1
  · clear h
    go_enter Try.func49, Try.ntmps49
    go_wp2
    go_step3
    go_wp2
    first | rw [Exit.noGoto_ret] | skip
    go_ret2
    exact ⟨rfl, rfl⟩
  by_cases h2 : 7 < size
  · clear h
    go_enter Try.func49, Try.ntmps49
    go_wp2
    go_step3
    go_wp2
    first | rw [Exit.noGoto_ret] | skip
    go_ret2
    exact ⟨rfl, rfl⟩
  by_cases h3 : at_ < 0
  · clear h
    go_enter Try.func49, Try.ntmps49
    go_wp2
    go_step3
    go_wp2
    first | rw [Exit.noGoto_ret] | skip
    go_ret2
    exact ⟨rfl, rfl⟩
  have h4 : (l.length : Int) - size < at_ := by omega
  clear h
  go_enter Try.func49, Try.ntmps49
  go_wp2
  go_step3
  go_wp2
  first | rw [Exit.noGoto_ret] | skip
  go_ret2
  exact ⟨rfl, rfl⟩

set_option maxRecDepth 100000 in
theorem fixed_out (n size : Int) (h : size < 1 ∨ 8 < size) (w : World) : Calls Try.prog 37 #[.int .i64 n, .int .i64 size] w (RetB w.heap.size w []) := by
  by_cases h1 : size < 1
  · clear h
    go_enter Try.func37, Try.ntmps37
    go_wp2
    go_step3
    go_wp2
    first | rw [Exit.noGoto_ret] | skip
    go_ret
    exact ⟨_, rfl, OwnB.nil _ _ _, Below.refl _ _⟩
  have h2 : 8 < size := by omega
  clear h
  go_enter Try.func37, Try.ntmps37
  go_wp2
  go_step3
  go_wp2
  first | rw [Exit.noGoto_ret] | skip
  go_ret
  exact ⟨_, rfl, OwnB.nil _ _ _, Below.refl _ _⟩

end Go.Proofs.Yteeikmpfgbfeoaa

/-
  Blocks: the entries of a block, as the document tells them.
-/
namespace Go.Proofs.Yteeikmpfgbfeoaa
open Go.RowKit

/-- What a call tells that tells the entries of a block. -/
def RetGet (w : World) (b : List UInt8) (e : Ending) (w' : World) : Prop :=
  ∃ x, e = .returned (.tuple #[x, .bool (getB b).isSome]) ∧ OwnE w' w.heap.size x ((getB b).getD []) ∧ Below w.heap.size w w'

theorem OwnE.nil (w : World) (B : Nat) : OwnE w B (.slice none 0 0) [] := World.ownsRow_nil _ _ _ _
theorem RetGet.no {w w' : World} {b : List UInt8} (h : getB b = none) (hb : Below w.heap.size w w') : RetGet w b (.returned (.tuple #[.slice none 0 0, .bool false])) w' :=
  ⟨_, by rw [h]; rfl, by rw [h]; exact OwnE.nil _ _, hb⟩
theorem RetGet.yes {w w' : World} {b : List UInt8} {es : List Ent} {x : Value} (h : IsBlk b es) (ho : OwnE w' w.heap.size x es) (hb : Below w.heap.size w w') : RetGet w b (.returned (.tuple #[x, .bool true])) w' :=
  ⟨_, by rw [getB_some h]; rfl, by rw [getB_some h]; exact ho, hb⟩

end Go.Proofs.Yteeikmpfgbfeoaa

/-
  The first entry of a list that is not below a key, as the document seeks it.
-/
namespace Go.Proofs.Yteeikmpfgbfeoaa
open Go.RowKit

end Go.Proofs.Yteeikmpfgbfeoaa

/-
  What the statements of chapters 12 and 13 go through; a number of theirs.
-/
namespace Go.Proofs.Yteeikmpfgbfeoaa
open Go.RowKit

def SmallE (es : List Ent) : Prop := es.length ≤ 1000 ∧ ∀ e ∈ es, e.u.size ≤ 1000 ∧ e.v.size ≤ 1000

set_option maxRecDepth 100000 in
theorem num12_any (n : Int) (w : World) : Calls Try.prog 16 #[.int .i64 n] w fun e w' => e = .returned (.int .i64 n) ∧ w = w' := by
  go_enter Try.func16, Try.ntmps16
  go_wp2
  go_ret
  exact ⟨rfl, rfl⟩

/-- Which it says: only where it is false all of them are small. -/
def FewE (es : List Ent) (e : Ending) : Prop := ∃ g : Bool, e = .returned (.bool g) ∧ (g = false → SmallE es)
theorem fewE_yes (es : List Ent) : FewE es (.returned (.bool true)) := ⟨true, rfl, fun h => by cases h⟩
theorem fewE_no {es : List Ent} (h : es.length ≤ 300) (h2 : ∀ j, j < es.length → (es.getD j Ent.none_).u.size ≤ 300 ∧ (es.getD j Ent.none_).v.size ≤ 1000) : FewE es (.returned (.bool false)) := by
  refine ⟨false, rfl, fun _ => ⟨by omega, fun e he => ?_⟩⟩
  obtain ⟨j, hj, rfl⟩ := List.mem_iff_getElem.1 he
  have := h2 j hj
  rw [show es.getD j Ent.none_ = es[j] by simp [List.getD, hj]] at this
  omega

end Go.Proofs.Yteeikmpfgbfeoaa

/-
  Chapter 12, what is asked of package block: as contracts, which the walks take and the program's own texts give.
-/
namespace Go.Proofs.Yteeikmpfgbfeoaa
open Go.RowKit

def PutC : Prop := ∀ (v : Value) (es : List Ent) (w : World) (_ : RdE w v es) (_ : SmallE es), Calls Try.prog 23 #[v] w (RetPut w es)
def GetC : Prop := ∀ (v : Value) (b : List UInt8) (w : World) (_ : RdB w v b) (_ : b.length ≤ 1000000), Calls Try.prog 68 #[v] w (RetGet w b)
def SeekC : Prop := ∀ (v : Value) (b : List UInt8) (u : ByteArray) (s k : Int) (_ : u.size ≤ 1000) (_ : (Lit.int .i64 s).wf = true) (_ : (Lit.int .i64 k).wf = true) (w : World) (_ : RdB w v b) (_ : b.length ≤ 1000000),
    Calls Try.prog 55 #[v, .agg #[.string u, .int .i64 s, .int .i64 k]] w fun e w' => e = .returned (ansN (aboveL ((getB b).getD []) u s k)) ∧ Below w.heap.size w w'

end Go.Proofs.Yteeikmpfgbfeoaa

/-
  Blocks: a block of entries, as the program tells it.
-/
namespace Go.Proofs.Yteeikmpfgbfeoaa
open Go.RowKit

theorem comL_turn : ∀ (x y : List UInt8), comL x y = comL y x
  | [], [] => rfl
  | [], _ :: _ => by unfold comL; rfl
  | _ :: _, [] => by unfold comL; rfl
  | a :: x, b :: y => by
    unfold comL
    rw [comL_turn x y]
    by_cases h : a = b
    · rw [if_pos h, if_pos h.symm]
    · rw [if_neg h, if_neg fun e => h e.symm]

/-- Two rows of bytes that are put together, and a box of cells beside them. -/
structure BX (W : World) (B q : Nat) (cs : List Value) (ty : TypeId) (w : World) (xb xt : Value) (r t : List UInt8) : Prop extends BT W B w xb xt r t where
  box : w.heap[q]? = some (.cells cs.toArray ty (0, 0))
  nb : xb.ownBlock ≠ some q
  nt : xt.ownBlock ≠ some q
section
variable {W w w' : World} {B q : Nat} {cs : List Value} {ty : TypeId} {xb xt v' : Value} {r t n : List UInt8}
theorem BX.cell (h : BX W B q cs ty w xb xt r t) (i : Nat) : w.cell? ⟨q, i, none⟩ = cs.toArray[i]? := blk_cell (i := i) h.box
theorem BX.start (h : BT W B w xb xt r t) (cs : List Value) (ty : TypeId) : BX W B w.heap.size cs ty (w.alloc (.cells cs.toArray ty)) xb xt r t where
  toBT := h.call ((Below.refl _ _).alloc (Nat.le_refl _) _)
  box := heap_alloc_new w _
  nb e := by have := own_lt h.own _ e; omega
  nt e := by have := own_lt h.tail _ e; omega
theorem BX.call (h : BX W B q cs ty w xb xt r t) (hb : Below w.heap.size w w') : BX W B q cs ty w' xb xt r t where
  toBT := h.toBT.call hb
  box := (hb.block q (blk_lt h.box)).trans h.box
  nb := h.nb
  nt := h.nt
theorem BX.put (h : BX W B q cs ty w xb xt r t) (ho : w'.ownsRow 0 5 1 v' (r.length + n.length) (r.map bv ++ n.map bv)) (hm : Moves w w' xb v') : BX W B q cs ty w' v' xt (r ++ n) t where
  toBT := h.toBT.put ho hm
  box := (hm.grown.block q (blk_lt h.box) (fun e => h.nb e.symm)).trans h.box
  nb e := by
    rcases hm.at_ q e with e | e
    · exact h.nb e
    · have := blk_lt h.box
      omega
  nt := h.nt
theorem BX.more (h : BX W B q cs ty w xb xt r t) (ho : w'.ownsRow 0 5 1 v' (t.length + n.length) (t.map bv ++ n.map bv)) (hm : Moves w w' xt v') : BX W B q cs ty w' xb v' r (t ++ n) where
  toBT := h.toBT.more ho hm
  box := (hm.grown.block q (blk_lt h.box) (fun e => h.nt e.symm)).trans h.box
  nb := h.nb
  nt e := by
    rcases hm.at_ q e with e | e
    · exact h.nt e
    · have := blk_lt h.box
      omega
end

set_option maxRecDepth 100000 in
set_option maxHeartbeats 400000 in
theorem put_any12 (v : Value) (es : List Ent) (w : World) (hv : RdE w v es) : Calls Try.prog 23 #[v] w (RetPut w es) := by
  have HRI := Lib.hid (rising_any v es w hv)
  have HV := Lib.hid hv
  obtain ⟨va, vc, rfl, hc1, hc2⟩ := hv.form
  unfold maxLen at hc2
  clear hv
  by_cases hn : es = []
  · have HE := Lib.hid (show putErr es = 1 by unfold putErr; rw [if_pos (.inr hn)])
    have hl0 : (es.length : Int) = 0 := by rw [hn]; rfl
    have hlb : ((es.length : Int) == 0) = true := by rw [hl0]; rfl
    clear hn HRI
    go_enter Try.func23, Try.ntmps23
    go_wp2
    go_ret2
    exact RetPut.no HE.out (by omega) (Below.refl _ _)
  · have hpos := List.length_pos_iff.2 hn
    have hlb : ((es.length : Int) == 0) = false := by
      have : (es.length : Int) ≠ 0 := by omega
      simpa using this
    have RISE : Hid (∀ b, risingB es = b → Calls Try.prog 21 #[.slice va es.length vc] w fun e w' => e = .returned (.bool b) ∧ Below w.heap.size w w') := Lib.hid fun b h => by rw [← h]; exact HRI.out
    clear HRI
    cases hr : risingB es with
    | false =>
      have HE := Lib.hid (show putErr es = 1 by unfold putErr; rw [if_pos (.inl hr)])
      have H1 := Lib.hid (RISE.out _ hr)
      clear RISE hr hn
      go_enter Try.func23, Try.ntmps23
      go_wp2_with (go_at_call 21; (refine H1.out.mono ?_); rintro e w1 ⟨rfl, hb1⟩)
      go_ret2
      exact RetPut.no HE.out (by omega) hb1
    | true =>
      have H1 := Lib.hid (RISE.out _ hr)
      have HRI := Lib.hid hr
      clear RISE hr
      by_cases h64 : 64 < es.length
      · have HE := Lib.hid (show putErr es = 4 by unfold putErr; rw [if_neg (by rw [HRI.out]; simpa using hn), if_pos h64])
        have g1 : decide ((64 : Int) < (es.length : Int)) = true := by simp; omega
        clear hn
        go_enter Try.func23, Try.ntmps23
        go_wp2_with (go_at_call 21; (refine H1.out.mono ?_); rintro e w1 ⟨rfl, hb1⟩)
        go_ret2
        exact RetPut.no HE.out (by omega) hb1
      · have HE := Lib.hid (show putErr es = 0 by unfold putErr; rw [if_neg (by rw [HRI.out]; simpa using hn), if_neg h64])
        have g1 : decide ((64 : Int) < (es.length : Int)) = false := by simp; omega
        have h64' : es.length ≤ 64 := by omega
        have HMAY := Lib.hid (fun k (hk : k < es.length) => rising_may HRI.out hk)
        have HBL := Lib.hid (bodyN_len HMAY.out)
        clear hn h64 hpos
        go_enter Try.func23, Try.ntmps23
        go_wp2_with (go_at_call 21; (refine H1.out.mono ?_); rintro e w1 ⟨rfl, hb1⟩)
        go_loopw [4, 5, 22] (fun b t i wr => ∃ k : Nat, k ≤ es.length ∧ i = .int .i64 (k : Int) ∧ Hid (BT w w.heap.size wr b t (bodyN es k) (tailN es k))) (fun _ _ i _ => es.length - (intOf i).toNat)
        case atStart => exact ⟨0, Nat.zero_le _, rfl, Lib.hid (BT.start hb1 hb1.size)⟩
        case round =>
          obtain ⟨k, hk, rfl, HT⟩ := hrel
          have HLB := Lib.hid (HBL.out k hk)
          have HLT := Lib.hid (tailN_len es k)
          by_cases hlt : k < es.length
          · obtain ⟨_, _, hva, hone⟩ := HV.out.one
            cases hva
            obtain ⟨b, off, rfl, hbw, c0, c1, c2, c3, hfit⟩ := hone k hlt
            have HBW := Lib.hid hbw
            replace c0 := (HT.out.be.cell (p := ⟨b, off + k * 4, none⟩) hbw).trans c0
            replace c1 := (HT.out.be.cell (p := ⟨b, off + k * 4 + 1, none⟩) hbw).trans c1
            replace c2 := (HT.out.be.cell (p := ⟨b, off + k * 4 + 2, none⟩) hbw).trans c2
            replace c3 := (HT.out.be.cell (p := ⟨b, off + k * 4 + 3, none⟩) hbw).trans c3
            have HM := Lib.hid (may_facts (HMAY.out k hlt))
            have HBN : Hid (bodyN es (k + 1) = bodyN es k ++ entB (es.getD k Ent.none_) (shE es k)) := Lib.hid rfl
            have HTN : Hid (tailN es (k + 1) = tailN es k ++ (if k % 4 = 0 then fixL (((bodyN es k).length : Nat) : Int) 4 else [])) := Lib.hid rfl
            have HSE := Lib.hid (shE_le es k)
            have HF4 : Hid (∀ n w, Calls Try.prog 37 #[.int .i64 n, .int .i64 4] w (RetB w.heap.size w (fixL n 4))) := Lib.hid fun n w => fixed_yes n 4 (by omega) w
            have HLE := Lib.hid (entB_le (HMAY.out k hlt) HSE.out.1)
            have HPE : Hid (∀ wz, Calls Try.prog 39 #[entV (es.getD k Ent.none_), .int .i64 (shE es k : Int)] wz (RetB wz.heap.size wz (entB (es.getD k Ent.none_) (shE es k)))) := Lib.hid fun wz => putEntry_any _ _ _ _ _ (by have := HSE.out.1; rw [size_list] at this; exact this) (HMAY.out k hlt) wz
            clear hone hfit hbw
            obtain ⟨ba, bc, hba, _, _⟩ := HT.out.own.read.form
            subst hba
            by_cases h4 : k % 4 = 0
            · have HS0 := Lib.hid (show shE es k = 0 by unfold shE; rw [if_pos h4])
              have m1 : (k : Int).tmod 4 = 0 := by rw [Int.tmod_eq_emod_of_nonneg (by omega)]; omega
              have m2 : (k : Int) % 4 = 0 := by omega
              rw [HS0.out] at HBN HSE HLE HPE
              rw [if_pos h4] at HTN
              generalize es.getD k Ent.none_ = X at *
              obtain ⟨xu, xs, xk, xv⟩ := X
              simp only at c0 c1 c2 c3
              replace HPE : Hid (∀ wz, Calls Try.prog 39 #[.agg #[.string xu, .int .i64 xs, .int .i64 xk, .string xv], .int .i64 0] wz (RetB wz.heap.size wz (entB ⟨xu, xs, xk, xv⟩ 0))) := HPE
              have hT := BX.start HT.out [.string xu, .int .i64 xs, .int .i64 xk, .string xv] 34
              have q0 := hT.cell 0; have q1 := hT.cell 1; have q2 := hT.cell 2; have q3 := hT.cell 3; simp only [List.getElem?_toArray, List.getElem?_cons_zero, List.getElem?_cons_succ] at q0 q1 q2 q3; 
              have HT := Lib.hid hT
              clear hT h4
              go_wp2_with (first | (go_at_call 37; (refine (HF4.out _ _).mono ?_); rintro e u3 ⟨p3, rfl, ho3, hb3⟩; have hT := HT.out.call hb3; have q0 := hT.cell 0; have q1 := hT.cell 1; have q2 := hT.cell 2; have q3 := hT.cell 3; simp only [List.getElem?_toArray, List.getElem?_cons_zero, List.getElem?_cons_succ] at q0 q1 q2 q3; have HT := Lib.hid hT; have HO := Lib.hid ho3.read; clear ho3 hb3 hT) | (at_builtin; refine wpList_plain rfl fun K' hK' => ?_; refine wp_append_at (.tmp 30) (.tmp 33) 22 rfl 5 1 1 (.int .u8 0) Try.underlying22 info_u8 rfl (by decide) _ _ _ _ _ _ rfl rfl HT.out.tail0 HO.out (bv_oneCell _) (by have := HLT.out; rw [fixL_length]; omega) (by unfold maxLen; have := HLT.out; rw [fixL_length]; omega) (fun v' w' hown hmv => hK' _ _ ?_); have hT := HT.out.more hown hmv; have q0 := hT.cell 0; have q1 := hT.cell 1; have q2 := hT.cell 2; have q3 := hT.cell 3; simp only [List.getElem?_toArray, List.getElem?_cons_zero, List.getElem?_cons_succ] at q0 q1 q2 q3; have HT := Lib.hid hT; clear hown hmv hT) | (go_at_call 39; (refine (HPE.out _).mono ?_); rintro e u3 ⟨p3, rfl, ho3, hb3⟩; have hT := HT.out.call hb3; have q0 := hT.cell 0; have q1 := hT.cell 1; have q2 := hT.cell 2; have q3 := hT.cell 3; simp only [List.getElem?_toArray, List.getElem?_cons_zero, List.getElem?_cons_succ] at q0 q1 q2 q3; have HT := Lib.hid hT; have HO := Lib.hid ho3.read; clear ho3 hb3 hT) | (at_builtin; refine wpList_plain rfl fun K' hK' => ?_; refine wp_append_at (.tmp 46) (.tmp 49) 22 rfl 5 1 1 (.int .u8 0) Try.underlying22 info_u8 rfl (by decide) _ _ _ _ _ _ rfl rfl HT.out.own0 HO.out (bv_oneCell _) (by have := HLB.out; have := HLT.out; have := HLE.out; (try simp only [List.length_append, fixL_length]); omega) (by unfold maxLen; have := HLB.out; have := HLT.out; have := HLE.out; (try simp only [List.length_append, fixL_length]); omega) (fun v' w' hown hmv => hK' _ _ ?_); have hT := HT.out.put hown hmv; have q0 := hT.cell 0; have q1 := hT.cell 1; have q2 := hT.cell 2; have q3 := hT.cell 3; simp only [List.getElem?_toArray, List.getElem?_cons_zero, List.getElem?_cons_succ] at q0 q1 q2 q3; have HT := Lib.hid hT; clear hown hmv hT))
              refine ⟨⟨k + 1, hlt, by go_num, Lib.hid ?_⟩, by simp [intOf]; omega⟩
              have := HT.out.toBT
              rw [HBN.out, HTN.out]
              exact this
            · have hk1 : 1 ≤ k := by omega
              obtain ⟨_, _, hva, hone⟩ := HV.out.one
              cases hva
              obtain ⟨_, _, hbb, _, p0, _, _, _, hfp⟩ := hone (k - 1) (by omega)
              cases hbb
              replace p0 := (HT.out.be.cell (p := ⟨b, off + (k - 1) * 4, none⟩) HBW.out).trans p0
              have HPRE : Hid (prevU es k = uL (es.getD (k - 1) Ent.none_)) := Lib.hid (by unfold prevU; rw [if_neg (by omega)])
              have HS0 : Hid (shE es k = comL (uL (es.getD (k - 1) Ent.none_)) (uL (es.getD k Ent.none_))) := Lib.hid (by unfold shE; rw [if_neg h4, HPRE.out, comL_turn])
              rw [if_neg h4] at HTN
              obtain ⟨mm, hmm⟩ : ∃ mm, k % 4 = mm := ⟨_, rfl⟩
              have m1 : (k : Int).tmod 4 = (mm : Int) := by rw [Int.tmod_eq_emod_of_nonneg (by omega)]; omega
              have m2 : (k : Int) % 4 = (mm : Int) := by omega
              have m0 : ((mm : Int) == 0) = false := by
                have : (mm : Int) ≠ 0 := by omega
                simpa using this
              have HSH := Lib.hid (fun w => common_any (es.getD (k - 1) Ent.none_).u (es.getD k Ent.none_).u (by have := (may_facts (HMAY.out (k - 1) (by omega))).1; rw [size_list] at this; unfold maxLen; omega) w)
              have hp0 : wr.cell? ⟨b, off + (k - 1) * 4, none⟩ = some (.string (es.getD (k - 1) Ent.none_).u) := p0
              rw [← HS0.out] at HSH
              generalize (es.getD (k - 1) Ent.none_).u = pu at *
              generalize es.getD k Ent.none_ = X at *
              generalize shE es k = sx at *
              obtain ⟨xu, xs, xk, xv⟩ := X
              simp only at c0 c1 c2 c3
              replace HPE : Hid (∀ wz, Calls Try.prog 39 #[.agg #[.string xu, .int .i64 xs, .int .i64 xk, .string xv], .int .i64 (sx : Int)] wz (RetB wz.heap.size wz (entB ⟨xu, xs, xk, xv⟩ sx))) := HPE
              have hT := BX.start HT.out [.string xu, .int .i64 xs, .int .i64 xk, .string xv] 34
              have zB0 := hT.cell 0
              simp only [List.getElem?_toArray, List.getElem?_cons_zero] at zB0
              have zB1 := (hT.be.cell (p := ⟨b, off + (k - 1) * 4, none⟩) HBW.out).trans ((HT.out.be.cell (p := ⟨b, off + (k - 1) * 4, none⟩) HBW.out).symm.trans hp0)
              have HT := Lib.hid hT
              have HMM := Lib.hid (show mm ≠ 0 by omega)
              clear hT h4 hone p0 hp0 hfp
              go_upto_region 13 with (fail)
              refine wp_region_plan [(true, 0), (true, 1), (true, 2), (true, 3), (true, 4), (true, 5), (true, 6), (true, 7), (true, 8), (true, 9), (false, 10), (true, 11)] (by kernel_rfl) (by kernel_rfl) (by kernel_rfl) (by kernel_rfl) (by kernel_rfl) ?_
              simp only [planO, List.drop_succ_cons, List.drop_zero]
              refine PlanO.take (v := ?v0) (by kernel_rfl) ?y0 ?r0
              case y0 => (intro wz hz; go_simp; try with_reducible rfl)
              (try simp only [Act.put, List.setIfInBounds_toArray, List.set_cons_zero, List.set_cons_succ])
              refine PlanO.take (v := ?v1) (by kernel_rfl) ?y1 ?r1
              case y1 => (intro wz hz; go_simp; try with_reducible rfl)
              (try simp only [Act.put, List.setIfInBounds_toArray, List.set_cons_zero, List.set_cons_succ])
              refine PlanO.take (v := .int .i64 ((k - 1 : Nat) : Int)) (by kernel_rfl) ?y2 ?r2
              case y2 => (intro wz hz; go_simp; rw [IntWalk.i64_in _ (by omega)]; omega)
              (try simp only [Act.put, List.setIfInBounds_toArray, List.set_cons_zero, List.set_cons_succ])
              refine PlanO.take (v := .pointer (some ⟨b, off + (k - 1) * 4, none⟩)) (by kernel_rfl) ?y3 ?r3
              case y3 => (intro wz hz; have hkb : ((k - 1 : Nat) : Int) < (es.length : Int) := (by omega); go_simp; try (intro hkc; omega))
              (try simp only [Act.put, List.setIfInBounds_toArray, List.set_cons_zero, List.set_cons_succ])
              refine PlanO.take (v := .pointer (some ⟨b, off + (k - 1) * 4, none⟩)) (by kernel_rfl) ?y4 ?r4
              case y4 => (intro wz hz; go_simp; try with_reducible rfl)
              (try simp only [Act.put, List.setIfInBounds_toArray, List.set_cons_zero, List.set_cons_succ])
              refine PlanO.take (v := .pointer (some ⟨b, off + (k - 1) * 4, none⟩)) (by kernel_rfl) ?y5 ?r5
              case y5 => (intro wz hz; go_simp; try with_reducible rfl)
              (try simp only [Act.put, List.setIfInBounds_toArray, List.set_cons_zero, List.set_cons_succ])
              refine PlanO.take (v := .string pu) (by kernel_rfl) ?y6 ?r6
              case y6 => (intro wz hz; have c1 := Ext.at_ hz zB1; go_simp; try with_reducible rfl)
              (try simp only [Act.put, List.setIfInBounds_toArray, List.set_cons_zero, List.set_cons_succ])
              refine PlanO.take (v := .pointer (some ⟨wr.heap.size, 0, none⟩)) (by kernel_rfl) ?y7 ?r7
              case y7 => (intro wz hz; go_simp; try with_reducible rfl)
              (try simp only [Act.put, List.setIfInBounds_toArray, List.set_cons_zero, List.set_cons_succ])
              refine PlanO.take (v := .pointer (some ⟨wr.heap.size, 0, none⟩)) (by kernel_rfl) ?y8 ?r8
              case y8 => (intro wz hz; go_simp; try with_reducible rfl)
              (try simp only [Act.put, List.setIfInBounds_toArray, List.set_cons_zero, List.set_cons_succ])
              refine PlanO.take (v := .string xu) (by kernel_rfl) ?y9 ?r9
              case y9 => (intro wz hz; have c0 := Ext.at_ hz zB0; go_simp; try with_reducible rfl)
              (try simp only [Act.put, List.setIfInBounds_toArray, List.set_cons_zero, List.set_cons_succ])
              refine PlanO.exec (fun K hK => ?_)
              go_simp
              go_at_call 38
              (refine (HSH.out _).mono ?_)
              rintro e w3 ⟨rfl, hb3⟩
              have HT9 := Lib.hid ((HT.out.call (Below.refl _ _).drew).call hb3)
              go_wp2_with fail
              refine hK.out _ _ hb3 ?_
              clear hK K
              (try simp only [Act.put, List.setIfInBounds_toArray, List.set_cons_zero, List.set_cons_succ])
              refine PlanO.take (v := ?v11) (by kernel_rfl) ?y11 ?r11
              case y11 => (intro wz hz; go_simp; try with_reducible rfl)
              (try simp only [Act.put, List.setIfInBounds_toArray, List.set_cons_zero, List.set_cons_succ])
              refine PlanO.done (NoPanic.normal ?_)
              have hT := HT9.out
              have q0 := hT.cell 0; have q1 := hT.cell 1; have q2 := hT.cell 2; have q3 := hT.cell 3; simp only [List.getElem?_toArray, List.getElem?_cons_zero, List.getElem?_cons_succ] at q0 q1 q2 q3; 
              clear HT hT
              have HT := HT9
              clear HT9
              go_wp2_with (first | (go_at_call 37; (refine (HF4.out _ _).mono ?_); rintro e u3 ⟨p3, rfl, ho3, hb3⟩; have hT := HT.out.call hb3; have q0 := hT.cell 0; have q1 := hT.cell 1; have q2 := hT.cell 2; have q3 := hT.cell 3; simp only [List.getElem?_toArray, List.getElem?_cons_zero, List.getElem?_cons_succ] at q0 q1 q2 q3; have HT := Lib.hid hT; have HO := Lib.hid ho3.read; clear ho3 hb3 hT) | (at_builtin; refine wpList_plain rfl fun K' hK' => ?_; refine wp_append_at (.tmp 30) (.tmp 33) 22 rfl 5 1 1 (.int .u8 0) Try.underlying22 info_u8 rfl (by decide) _ _ _ _ _ _ rfl rfl HT.out.tail0 HO.out (bv_oneCell _) (by have := HLT.out; rw [fixL_length]; omega) (by unfold maxLen; have := HLT.out; rw [fixL_length]; omega) (fun v' w' hown hmv => hK' _ _ ?_); have hT := HT.out.more hown hmv; have q0 := hT.cell 0; have q1 := hT.cell 1; have q2 := hT.cell 2; have q3 := hT.cell 3; simp only [List.getElem?_toArray, List.getElem?_cons_zero, List.getElem?_cons_succ] at q0 q1 q2 q3; have HT := Lib.hid hT; clear hown hmv hT) | (go_at_call 39; (refine (HPE.out _).mono ?_); rintro e u3 ⟨p3, rfl, ho3, hb3⟩; have hT := HT.out.call hb3; have q0 := hT.cell 0; have q1 := hT.cell 1; have q2 := hT.cell 2; have q3 := hT.cell 3; simp only [List.getElem?_toArray, List.getElem?_cons_zero, List.getElem?_cons_succ] at q0 q1 q2 q3; have HT := Lib.hid hT; have HO := Lib.hid ho3.read; clear ho3 hb3 hT) | (at_builtin; refine wpList_plain rfl fun K' hK' => ?_; refine wp_append_at (.tmp 46) (.tmp 49) 22 rfl 5 1 1 (.int .u8 0) Try.underlying22 info_u8 rfl (by decide) _ _ _ _ _ _ rfl rfl HT.out.own0 HO.out (bv_oneCell _) (by have := HLB.out; have := HLT.out; have := HLE.out; (try simp only [List.length_append, fixL_length]); omega) (by unfold maxLen; have := HLB.out; have := HLT.out; have := HLE.out; (try simp only [List.length_append, fixL_length]); omega) (fun v' w' hown hmv => hK' _ _ ?_); have hT := HT.out.put hown hmv; have q0 := hT.cell 0; have q1 := hT.cell 1; have q2 := hT.cell 2; have q3 := hT.cell 3; simp only [List.getElem?_toArray, List.getElem?_cons_zero, List.getElem?_cons_succ] at q0 q1 q2 q3; have HT := Lib.hid hT; clear hown hmv hT))
              refine ⟨⟨k + 1, hlt, by go_num, Lib.hid ?_⟩, by simp [intOf]; omega⟩
              have := HT.out.toBT
              rw [HBN.out, HTN.out]
              simpa only [List.append_nil] using this
          · have hke : ¬ (k : Int) < (es.length : Int) := by omega
            have hkn : k = es.length := by omega
            have HF2 : Hid (∀ n w, Calls Try.prog 37 #[.int .i64 n, .int .i64 2] w (RetB w.heap.size w (fixL n 2))) := Lib.hid fun n w => fixed_yes n 2 (by omega) w
            have HEND : Hid (blockL es = bodyN es k ++ tailN es k ++ fixL (wrap64 (((tailN es k).length : Int) / 4)) 2) := Lib.hid (by unfold blockL; rw [hkn, tailN_len, IntWalk.wrap64_in _ (by omega)]; congr 2; omega)
            have HLE := Lib.hid (Nat.le_refl 0)
            clear hkn
            have HO := Lib.hid HT.out.tail.read
            obtain ⟨ta, tc, hta, _, _⟩ := HO.out.form
            subst hta
            go_wp2_with (first | (at_builtin; refine wpList_plain rfl fun K' hK' => ?_; refine wp_append_at (.tmp 52) (.tmp 53) 22 rfl 5 1 1 (.int .u8 0) Try.underlying22 info_u8 rfl (by decide) _ _ _ _ _ _ rfl rfl HT.out.own0 HO.out (bv_oneCell _) (by have := HLB.out; have := HLT.out; have := HLE.out; (try simp only [List.length_append, fixL_length]); omega) (by unfold maxLen; have := HLB.out; have := HLT.out; have := HLE.out; (try simp only [List.length_append, fixL_length]); omega) (fun v' w' hown hmv => hK' _ _ ?_); have hT := HT.out.put hown hmv; have HT := Lib.hid hT; clear hown hmv hT) | (go_at_call 37; (refine (HF2.out _ _).mono ?_); rintro e u3 ⟨p3, rfl, ho3, hb3⟩; have hT := HT.out.call hb3; have HT := Lib.hid hT; have HO := Lib.hid ho3.read; clear ho3 hb3 hT) | (at_builtin; refine wpList_plain rfl fun K' hK' => ?_; refine wp_append_at (.tmp 55) (.tmp 59) 22 rfl 5 1 1 (.int .u8 0) Try.underlying22 info_u8 rfl (by decide) _ _ _ _ _ _ rfl rfl HT.out.own0 HO.out (bv_oneCell _) (by have := HLB.out; have := HLT.out; have := HLE.out; (try simp only [List.length_append, fixL_length]); omega) (by unfold maxLen; have := HLB.out; have := HLT.out; have := HLE.out; (try simp only [List.length_append, fixL_length]); omega) (fun v' w' hown hmv => hK' _ _ ?_); have hT := HT.out.put hown hmv; have HT := Lib.hid hT; clear hown hmv hT))
            go_ret2
            exact ⟨_, by rw [HE.out]; rfl, by rw [if_pos HE.out, HEND.out]; exact HT.out.own, HT.out.be⟩
theorem put_any (v : Value) (es : List Ent) (w : World) (hv : RdE w v es) (_ : SmallE es) : Calls Try.prog 23 #[v] w (RetPut w es) := put_any12 v es w hv
end Go.Proofs.Yteeikmpfgbfeoaa

/-
  Check sums as numbers: plain facts on lists of bytes and numbers; nothing of the program.
-/
namespace Go.Proofs.Yteeikmpfgbfeoaa

/-- The polynomial, its bits turned round. -/
def poly : Nat := 0x82f63b78

/-- One bit of a check sum. -/
def st1 (c : Nat) : Nat := c / 2 ^^^ (if c % 2 = 1 then poly else 0)

/-- So many bits. -/
def stN : Nat → Nat → Nat
  | 0, c => c
  | n + 1, c => stN n (st1 c)

/-- One byte. -/
def crcB (c : Nat) (b : UInt8) : Nat := stN 8 (c ^^^ b.toNat)

/-- All bytes. -/
def crcL (c : Nat) (l : List UInt8) : Nat := l.foldl crcB c

/-- The sum of bytes. -/
def sumL (l : List UInt8) : Nat := crcL 4294967295 l ^^^ 4294967295

theorem xor_half (a b : Nat) : (a ^^^ b) / 2 = a / 2 ^^^ b / 2 := by
  have := Nat.shiftRight_xor_distrib (a := a) (b := b) (i := 1)
  simpa [Nat.shiftRight_eq_div_pow] using this

theorem xor_low (a b : Nat) : (a ^^^ b) % 2 = (a % 2 + b % 2) % 2 := by
  have h := Nat.testBit_xor a b 0
  simp only [Nat.testBit_zero] at h
  rcases Nat.mod_two_eq_zero_or_one a with h1 | h1 <;> rcases Nat.mod_two_eq_zero_or_one b with h2 | h2 <;> rcases Nat.mod_two_eq_zero_or_one (a ^^^ b) with h3 | h3 <;> simp [h1, h2, h3] at h ⊢

theorem xor_zero_eq {a b : Nat} (h : a ^^^ b = 0) : a = b := by
  apply Nat.eq_of_testBit_eq
  intro i
  have := Nat.testBit_xor a b i
  rw [h, Nat.zero_testBit] at this
  cases ha : a.testBit i <;> cases hb : b.testBit i <;> simp [ha, hb] at this ⊢

theorem st1_xor (a b : Nat) : st1 (a ^^^ b) = st1 a ^^^ st1 b := by
  unfold st1
  rw [xor_half, xor_low]
  rcases Nat.mod_two_eq_zero_or_one a with h | h <;> rcases Nat.mod_two_eq_zero_or_one b with h' | h' <;> simp [h, h']
  · rw [Nat.xor_assoc]
  · rw [Nat.xor_assoc, Nat.xor_assoc, Nat.xor_comm poly]
  · have : a / 2 ^^^ poly ^^^ (b / 2 ^^^ poly) = a / 2 ^^^ b / 2 ^^^ (poly ^^^ poly) := by
      rw [Nat.xor_assoc, Nat.xor_assoc, ← Nat.xor_assoc poly, Nat.xor_comm poly, Nat.xor_assoc]
    rw [this, Nat.xor_self, Nat.xor_zero]

theorem st1_lt (c : Nat) (h : c < 2 ^ 32) : st1 c < 2 ^ 32 := by
  unfold st1
  refine Nat.xor_lt_two_pow (by omega) ?_
  split
  · decide
  · decide

/-- What is not nought stays so. -/
theorem st1_ne (c : Nat) (hc : c < 2 ^ 32) (h : c ≠ 0) : st1 c ≠ 0 := by
  intro e
  unfold st1 at e
  have e' := xor_zero_eq e
  split at e'
  · unfold poly at e'; omega
  · omega

theorem stN_xor : ∀ (n a b : Nat), stN n (a ^^^ b) = stN n a ^^^ stN n b
  | 0, _, _ => rfl
  | n + 1, a, b => by rw [stN, st1_xor, stN_xor n]; rfl

theorem stN_lt : ∀ (n c : Nat), c < 2 ^ 32 → stN n c < 2 ^ 32
  | 0, _, h => h
  | n + 1, c, h => stN_lt n _ (st1_lt c h)

theorem stN_ne : ∀ (n c : Nat), c < 2 ^ 32 → c ≠ 0 → stN n c ≠ 0
  | 0, _, _, h => h
  | n + 1, c, hc, h => stN_ne n _ (st1_lt c hc) (st1_ne c hc h)

theorem stN_add : ∀ (m n c : Nat), stN (m + n) c = stN n (stN m c)
  | 0, n, c => by rw [Nat.zero_add]; rfl
  | m + 1, n, c => by rw [Nat.add_right_comm, stN, stN_add m n]; rfl

theorem stN_zero : ∀ n, stN n 0 = 0
  | 0 => rfl
  | n + 1 => by rw [stN]; exact stN_zero n

/-- Bits above the lowest ones come down. -/
theorem stN_up (n c : Nat) : stN n (c * 2 ^ n) = c := by
  induction n generalizing c with
  | zero => simp [stN]
  | succ n ih =>
    have e : st1 (c * 2 ^ (n + 1)) = c * 2 ^ n := by
      unfold st1
      have h1 : c * 2 ^ (n + 1) = 2 * (c * 2 ^ n) := by rw [Nat.pow_succ, ← Nat.mul_assoc, Nat.mul_comm]
      rw [h1, if_neg (by omega), Nat.xor_zero]
      omega
    rw [stN, e, ih]

theorem crcB_lt (c : Nat) (b : UInt8) (h : c < 2 ^ 32) : crcB c b < 2 ^ 32 := stN_lt _ _ (Nat.xor_lt_two_pow h (by have := b.toNat_lt; omega))

theorem crcL_lt : ∀ (l : List UInt8) (c : Nat), c < 2 ^ 32 → crcL c l < 2 ^ 32
  | [], _, h => h
  | b :: l, c, h => crcL_lt l _ (crcB_lt c b h)

theorem crcL_append (c : Nat) (l r : List UInt8) : crcL c (l ++ r) = crcL (crcL c l) r := by simp [crcL]

theorem sumL_lt (l : List UInt8) : sumL l < 2 ^ 32 := Nat.xor_lt_two_pow (crcL_lt l _ (by decide)) (by decide)

/-- Three put one over another. -/
def zip3 : List UInt8 → List UInt8 → List UInt8 → List UInt8
  | a :: x, b :: y, c :: z => (a ^^^ b ^^^ c) :: zip3 x y z
  | _, _, _ => []

theorem xor3 (a b c x y z : Nat) : (a ^^^ x) ^^^ (b ^^^ y) ^^^ (c ^^^ z) = (a ^^^ b ^^^ c) ^^^ (x ^^^ y ^^^ z) := by
  apply Nat.eq_of_testBit_eq
  intro i
  simp only [Nat.testBit_xor]
  cases a.testBit i <;> cases b.testBit i <;> cases c.testBit i <;> cases x.testBit i <;> cases y.testBit i <;> cases z.testBit i <;> rfl

theorem crcL_zip3 : ∀ (l m n : List UInt8) (a b c : Nat), l.length = m.length → m.length = n.length → crcL a l ^^^ crcL b m ^^^ crcL c n = crcL (a ^^^ b ^^^ c) (zip3 l m n)
  | [], [], [], _, _, _, _, _ => rfl
  | x :: l, y :: m, z :: n, a, b, c, h1, h2 => by
    have ih := crcL_zip3 l m n (crcB a x) (crcB b y) (crcB c z) (by simpa using h1) (by simpa using h2)
    have e : crcB a x ^^^ crcB b y ^^^ crcB c z = crcB (a ^^^ b ^^^ c) (x ^^^ y ^^^ z) := by
      unfold crcB
      rw [← stN_xor, ← stN_xor, xor3]
      simp
    rw [e] at ih
    exact ih

theorem sumL_zip3 (l m n : List UInt8) (h1 : l.length = m.length) (h2 : m.length = n.length) : sumL l ^^^ sumL m ^^^ sumL n = sumL (zip3 l m n) := by
  unfold sumL
  rw [xor3, crcL_zip3 l m n _ _ _ h1 h2]
  rfl

/-- Bytes as one number, the first one lowest. -/
def numL : List UInt8 → Nat
  | [] => 0
  | x :: r => x.toNat ^^^ numL r * 256

theorem xor_shift {x y : Nat} (hx : x < 256) : x ^^^ y * 256 = y * 256 + x := by
  have h := nat_join 8 (y * 256) x (by omega) hx
  have h2 : x ^^^ y * 256 = y * 256 ||| x := by
    apply Nat.eq_of_testBit_eq
    intro i
    simp only [Nat.testBit_xor, Nat.testBit_or]
    rcases Nat.lt_or_ge i 8 with hi | hi
    · have : (y * 256).testBit i = false := by
        rw [show y * 256 = y * 2 ^ 8 from rfl, Nat.testBit_mul_two_pow]
        simp
        omega
      rw [this]; simp
    · have : x.testBit i = false := Nat.testBit_lt_two_pow (Nat.lt_of_lt_of_le hx (show 2 ^ 8 ≤ 2 ^ i from Nat.pow_le_pow_right (by omega) hi))
      rw [this]; simp
  rw [h2, h]

theorem numL_cons (x : UInt8) (r : List UInt8) : numL (x :: r) = numL r * 256 + x.toNat := xor_shift x.toNat_lt

theorem numL_lt : ∀ l : List UInt8, numL l < 256 ^ l.length
  | [] => by simp [numL]
  | x :: r => by
    have := numL_lt r
    have := x.toNat_lt
    rw [numL_cons, List.length_cons, Nat.pow_succ]
    omega

theorem numL_inj : ∀ l m : List UInt8, l.length = m.length → numL l = numL m → l = m
  | [], [], _, _ => rfl
  | x :: l, y :: m, h, e => by
    rw [numL_cons, numL_cons] at e
    have := x.toNat_lt
    have := y.toNat_lt
    have e1 : x = y := UInt8.toNat_inj.1 (by omega)
    subst e1
    rw [numL_inj l m (by simpa using h) (by omega)]

theorem crcL_num : ∀ (l : List UInt8) (c : Nat), crcL c l = stN (8 * l.length) (c ^^^ numL l)
  | [], c => by simp [crcL, numL, stN]
  | x :: r, c => by
    have ih := crcL_num r (crcB c x)
    have e : crcB c x ^^^ numL r = stN 8 (c ^^^ numL (x :: r)) := by
      have h := stN_up 8 (numL r)
      unfold crcB
      conv => lhs; rw [← h]
      rw [← stN_xor, numL, Nat.xor_assoc]
    show crcL (crcB c x) r = _
    rw [ih, e, ← stN_add, List.length_cons]
    congr 1
    omega

theorem crcB_same (c d : Nat) (b : UInt8) : crcB c b ^^^ crcB d b = stN 8 (c ^^^ d) := by
  unfold crcB
  rw [← stN_xor]
  congr 1
  apply Nat.eq_of_testBit_eq
  intro i
  simp only [Nat.testBit_xor]
  cases c.testBit i <;> cases d.testBit i <;> cases b.toNat.testBit i <;> rfl

theorem crcL_same : ∀ (l : List UInt8) (c d : Nat), c < 2 ^ 32 → d < 2 ^ 32 → c ≠ d → crcL c l ≠ crcL d l
  | [], _, _, _, _, h => h
  | b :: l, c, d, hc, hd, h => by
    refine crcL_same l _ _ (crcB_lt c b hc) (crcB_lt d b hd) ?_
    intro e
    have h1 := crcB_same c d b
    rw [e, Nat.xor_self] at h1
    exact stN_ne 8 (c ^^^ d) (Nat.xor_lt_two_pow hc hd) (fun h2 => h (xor_zero_eq h2)) h1.symm

/-- Where up to four bytes side by side differ the sums differ. -/
theorem sumL_turned (p l m r : List UInt8) (hl : l.length = m.length) (h4 : l.length ≤ 4) (hne : l ≠ m) : sumL (p ++ l ++ r) ≠ sumL (p ++ m ++ r) := by
  intro h
  have h0 : crcL 4294967295 (p ++ l ++ r) = crcL 4294967295 (p ++ m ++ r) := by
    unfold sumL at h
    have := congrArg (· ^^^ 4294967295) h
    simpa [Nat.xor_assoc] using this
  rw [crcL_append, crcL_append, crcL_append, crcL_append] at h0
  have hs : crcL 4294967295 p < 2 ^ 32 := crcL_lt p _ (by decide)
  generalize crcL 4294967295 p = s at *
  refine crcL_same r _ _ (crcL_lt l _ hs) (crcL_lt m _ hs) ?_ h0
  intro e
  rw [crcL_num, crcL_num, ← hl] at e
  have hp : (256 : Nat) ^ l.length ≤ 256 ^ 4 := Nat.pow_le_pow_right (by omega) h4
  have hl1 := numL_lt l
  have hm1 := numL_lt m
  rw [← hl] at hm1
  have hd : numL l ^^^ numL m ≠ 0 := fun e2 => hne (numL_inj l m hl (xor_zero_eq e2))
  have hx := stN_xor (8 * l.length) (s ^^^ numL l) (s ^^^ numL m)
  rw [e, Nat.xor_self] at hx
  have e3 : (s ^^^ numL l) ^^^ (s ^^^ numL m) = numL l ^^^ numL m := by
    apply Nat.eq_of_testBit_eq
    intro i
    simp only [Nat.testBit_xor]
    cases s.testBit i <;> cases (numL l).testBit i <;> cases (numL m).testBit i <;> rfl
  rw [e3] at hx
  exact stN_ne _ _ (Nat.xor_lt_two_pow (by omega) (by omega)) hd hx

/-- One byte of a hash. -/
def hashB (h : Nat) (b : UInt8) : Nat := (h ^^^ b.toNat) * 16777619 % 4294967296

/-- The hash of a text. -/
def hashG (h : Nat) (l : List UInt8) : Nat := l.foldl hashB h
def hashL (l : List UInt8) : Nat := hashG 2166136261 l

theorem hashG_snoc (h : Nat) (l : List UInt8) (b : UInt8) : hashG h (l ++ [b]) = hashB (hashG h l) b := by
  unfold hashG
  rw [List.foldl_append, List.foldl_cons, List.foldl_nil]

theorem hashL_snoc (l : List UInt8) (b : UInt8) : hashL (l ++ [b]) = hashB (hashL l) b := hashG_snoc _ l b

theorem hashB_lt (h : Nat) (b : UInt8) : hashB h b < 4294967296 := by
  unfold hashB
  generalize (h ^^^ b.toNat) * 16777619 = x
  exact Nat.mod_lt x (by decide)

theorem hashG_lt (h : Nat) (hh : h < 4294967296) (l : List UInt8) : hashG h l < 4294967296 := by
  rcases List.eq_nil_or_concat l with rfl | ⟨r, b, rfl⟩
  · exact hh
  · rw [List.concat_eq_append, hashG_snoc]; exact hashB_lt _ _

theorem hashL_lt (l : List UInt8) : hashL l < 4294967296 := hashG_lt _ (by decide) l
end Go.Proofs.Yteeikmpfgbfeoaa

/-
  Bits of numbers of 32 and 64 bits, as the walk spells them: plain facts.
-/
namespace Go.Proofs.Yteeikmpfgbfeoaa

theorem xor_u32 (a b : Nat) (ha : a < 2 ^ 32) (hb : b < 2 ^ 32) : bits .xor .u32 (a : Int) (b : Int) = ((a ^^^ b : Nat) : Int) := by
  have hx : a ^^^ b < 2 ^ 32 := Nat.xor_lt_two_pow ha hb
  show IntKind.u32.wrap ((BitVec.ofInt 32 (a : Int) ^^^ BitVec.ofInt 32 (b : Int)).toNat : Int) = _
  rw [BitVec.toNat_xor, ofInt_u32 a ha, ofInt_u32 b hb, IntKind.wrap_u32']
  omega

theorem and_one_u32 (a : Nat) (ha : a < 2 ^ 32) : bits .and .u32 (a : Int) 1 = ((a % 2 : Nat) : Int) := by
  have h1 : (BitVec.ofInt 32 1).toNat = 1 := by decide
  show IntKind.u32.wrap ((BitVec.ofInt 32 (a : Int) &&& BitVec.ofInt 32 1).toNat : Int) = _
  rw [BitVec.toNat_and, ofInt_u32 a ha, h1, Nat.and_one_is_mod, IntKind.wrap_u32']
  omega

theorem xor_i64 (a b : Nat) (ha : a < 2 ^ 63) (hb : b < 2 ^ 63) : bits .xor .i64 (a : Int) (b : Int) = ((a ^^^ b : Nat) : Int) := by
  have hx : a ^^^ b < 2 ^ 63 := Nat.xor_lt_two_pow ha hb
  have o : ∀ c : Nat, c < 2 ^ 63 → (BitVec.ofInt 64 (c : Int)).toNat = c := by
    intro c hc
    rw [BitVec.ofInt_natCast, BitVec.toNat_ofNat]
    exact Nat.mod_eq_of_lt (by omega)
  show IntKind.i64.wrap ((BitVec.ofInt 64 (a : Int) ^^^ BitVec.ofInt 64 (b : Int)).toNat : Int) = _
  rw [BitVec.toNat_xor, o a ha, o b hb]
  exact IntWalk.i64_in _ (by omega)

/-- All bits turned round. -/
theorem not_u32 (a : Nat) (ha : a < 2 ^ 32) : a ^^^ 4294967295 = 4294967295 - a := by
  have h : a ^^^ 4294967295 < 2 ^ 32 := Nat.xor_lt_two_pow ha (by decide)
  have e : (BitVec.ofNat 32 a ^^^ BitVec.allOnes 32) = ~~~ BitVec.ofNat 32 a := BitVec.xor_allOnes
  have e2 := congrArg BitVec.toNat e
  rw [BitVec.toNat_xor, BitVec.toNat_not, BitVec.toNat_ofNat, Nat.mod_eq_of_lt ha, BitVec.toNat_allOnes] at e2
  exact e2

/-- One bit, as programs make it: shifted, then the polynomial put over it where the bit that fell out was set. -/
theorem st1_even (c : Nat) (h : c % 2 = 0) : st1 c = c / 2 := by unfold st1; rw [if_neg (by omega), Nat.xor_zero]
theorem st1_odd (c : Nat) (h : c % 2 = 1) : st1 c = c / 2 ^^^ poly := by unfold st1; rw [if_pos h]
end Go.Proofs.Yteeikmpfgbfeoaa

/-
  Four bytes side by side that are turned by a number of 32 bits: what the statement SumTurned asks of lists of bytes.
-/
namespace Go.Proofs.Yteeikmpfgbfeoaa

/-- Behind 'i' rounds: the bytes from 'k' on are turned by the bytes of 'x', the lowest one first. -/
def turnL (l : List UInt8) (k x : Nat) : Nat → List UInt8
  | 0 => l
  | i + 1 => (turnL l k x i).set (k + i) ((turnL l k x i).getD (k + i) 0 ^^^ UInt8.ofNat (x / 256 ^ i % 256))

theorem turnL_length (l : List UInt8) (k x i : Nat) : (turnL l k x i).length = l.length := by
  induction i with
  | zero => rfl
  | succ i ih => rw [turnL, List.length_set, ih]

theorem four_of {l : List UInt8} {k : Nat} (h : k + 4 ≤ l.length) : ∃ (p r : List UInt8) (a b c d : UInt8), l = p ++ [a, b, c, d] ++ r ∧ p.length = k := by
  refine ⟨l.take k, l.drop (k + 4), l[k]'(by omega), l[k + 1]'(by omega), l[k + 2]'(by omega), l[k + 3]'(by omega), ?_, by rw [List.length_take]; omega⟩
  have e : l.drop k = l[k]'(by omega) :: l[k + 1]'(by omega) :: l[k + 2]'(by omega) :: l[k + 3]'(by omega) :: l.drop (k + 4) := by
    rw [List.drop_eq_getElem_cons (by omega), List.drop_eq_getElem_cons (by omega), List.drop_eq_getElem_cons (by omega), List.drop_eq_getElem_cons (by omega)]
  conv => lhs; rw [← List.take_append_drop k l, e]
  simp

theorem set_mid (p q : List UInt8) (a : UInt8) (k : Nat) (x : UInt8) (h : p.length = k) : (p ++ a :: q).set k x = p ++ x :: q := by
  subst h
  rw [List.set_append_right _ _ (Nat.le_refl _), Nat.sub_self]
  rfl
theorem get_mid (p q : List UInt8) (a : UInt8) (k : Nat) (h : p.length = k) : (p ++ a :: q).getD k 0 = a := by
  subst h
  simp [List.getD]

theorem turnL_four (p r : List UInt8) (a b c d : UInt8) (x : Nat) :
    turnL (p ++ [a, b, c, d] ++ r) p.length x 4 = p ++ [a ^^^ UInt8.ofNat (x % 256), b ^^^ UInt8.ofNat (x / 256 % 256), c ^^^ UInt8.ofNat (x / 65536 % 256), d ^^^ UInt8.ofNat (x / 16777216 % 256)] ++ r := by
  have e0 : p ++ [a, b, c, d] ++ r = p ++ a :: (b :: c :: d :: r) := by simp
  rw [e0]
  have t1 : turnL (p ++ a :: (b :: c :: d :: r)) p.length x 1 = (p ++ [a ^^^ UInt8.ofNat (x % 256)]) ++ b :: (c :: d :: r) := by
    rw [turnL, turnL, Nat.add_zero, get_mid _ _ _ _ rfl, set_mid _ _ _ _ _ rfl]
    simp
  have t2 : turnL (p ++ a :: (b :: c :: d :: r)) p.length x 2 = (p ++ [a ^^^ UInt8.ofNat (x % 256), b ^^^ UInt8.ofNat (x / 256 % 256)]) ++ c :: (d :: r) := by
    rw [turnL, t1, get_mid _ _ _ _ (by simp), set_mid _ _ _ _ _ (by simp)]
    simp
  have t3 : turnL (p ++ a :: (b :: c :: d :: r)) p.length x 3 = (p ++ [a ^^^ UInt8.ofNat (x % 256), b ^^^ UInt8.ofNat (x / 256 % 256), c ^^^ UInt8.ofNat (x / 65536 % 256)]) ++ d :: r := by
    rw [turnL, t2, get_mid _ _ _ _ (by simp), set_mid _ _ _ _ _ (by simp)]
    simp
  rw [turnL, t3, get_mid _ _ _ _ (by simp), set_mid _ _ _ _ _ (by simp)]
  simp

theorem xor_same {a x : UInt8} (h : a ^^^ x = a) : x.toNat = 0 := by
  have h1 := congrArg UInt8.toNat h
  rw [UInt8.toNat_xor] at h1
  have h2 : a.toNat ^^^ (a.toNat ^^^ x.toNat) = a.toNat ^^^ a.toNat := by rw [h1]
  rw [← Nat.xor_assoc, Nat.xor_self, Nat.zero_xor] at h2
  exact h2

/-- Turned by what is not nought they have another sum. -/
theorem sumL_turnL (l : List UInt8) (k x : Nat) (h : k + 4 ≤ l.length) (hx : x < 2 ^ 32) (h0 : x ≠ 0) : sumL (turnL l k x 4) ≠ sumL l := by
  obtain ⟨p, r, a, b, c, d, rfl, rfl⟩ := four_of h
  rw [turnL_four]
  refine sumL_turned p _ _ r rfl (by simp) ?_
  intro e
  simp only [List.cons.injEq, and_true] at e
  obtain ⟨e1, e2, e3, e4⟩ := e
  have f : ∀ n : Nat, (UInt8.ofNat (n % 256)).toNat = n % 256 := by
    intro n
    rw [UInt8.toNat_ofNat']
    exact Nat.mod_eq_of_lt (by omega)
  have q1 := xor_same e1
  have q2 := xor_same e2
  have q3 := xor_same e3
  have q4 := xor_same e4
  rw [f] at q1 q2 q3 q4
  omega
end Go.Proofs.Yteeikmpfgbfeoaa

/-
  Records in a row, as plain data: a record of bytes, what stands at a place, what is told from the beginning on.
-/
namespace Go.Proofs.Yteeikmpfgbfeoaa

/-- A record of bytes, of so many as there may be. -/
def frRaw (p : List UInt8) : List UInt8 := fixL (p.length : Int) 4 ++ fixL (sumL p : Int) 4 ++ p
def frL (p : List UInt8) : List UInt8 := if p.length ≤ 1048576 then frRaw p else []

def frN (b : List UInt8) (at_ : Nat) : Nat := valL ((b.drop at_).take 4)
def frP (b : List UInt8) (at_ : Nat) : List UInt8 := (b.drop (at_ + 8)).take (frN b at_)
/-- Is there one? -/
def frOk (b : List UInt8) (at_ : Nat) : Bool := decide (at_ + 8 + frN b at_ ≤ b.length) && decide (frN b at_ ≤ 1048576) && decide (sumL (frP b at_) = valL ((b.drop (at_ + 4)).take 4))

/-- From a place on, as far as they go: what they hold, and where the last one ends. -/
def scanN : Nat → List UInt8 → Nat → List (List UInt8) × Nat
  | 0, _, at_ => ([], at_)
  | k + 1, b, at_ => if frOk b at_ then let r := scanN k b (at_ + 8 + frN b at_); (frP b at_ :: r.1, r.2) else ([], at_)
def scanL (b : List UInt8) : List (List UInt8) × Nat := scanN (b.length + 1) b 0

theorem frRaw_length (p : List UInt8) : (frRaw p).length = p.length + 8 := by
  unfold frRaw
  simp only [List.length_append, fixL_length]
  omega

theorem frOk_le {b : List UInt8} {at_ : Nat} (h : frOk b at_ = true) : at_ + 8 + frN b at_ ≤ b.length := by
  unfold frOk at h
  simp only [Bool.and_eq_true, decide_eq_true_eq] at h
  exact h.1.1

theorem frP_length {b : List UInt8} {at_ : Nat} (h : at_ + 8 + frN b at_ ≤ b.length) : (frP b at_).length = frN b at_ := by
  unfold frP
  rw [List.length_take, List.length_drop]
  omega

/-- More steps than there are bytes make no odds. -/
theorem scanN_more : ∀ (k m : Nat) (b : List UInt8) (at_ : Nat), b.length - at_ < k → b.length - at_ < m → scanN k b at_ = scanN m b at_
  | 0, _, _, _, h, _ => by omega
  | _, 0, _, _, _, h => by omega
  | k + 1, m + 1, b, at_, h1, h2 => by
    unfold scanN
    by_cases h : frOk b at_ = true
    · rw [if_pos h, if_pos h]
      have hl := frOk_le h
      rw [scanN_more k m b _ (by omega) (by omega)]
    · rw [if_neg h, if_neg h]

/-- The loop: what was told so far, and the rest. -/
def ScanSo (b : List UInt8) (l : List (List UInt8)) (at_ : Nat) : Prop := scanL b = (l ++ (scanN (b.length + 1) b at_).1, (scanN (b.length + 1) b at_).2)

theorem ScanSo.start (b : List UInt8) : ScanSo b [] 0 := rfl

theorem ScanSo.next {b : List UInt8} {l : List (List UInt8)} {at_ : Nat} (h : ScanSo b l at_) (ho : frOk b at_ = true) : ScanSo b (l ++ [frP b at_]) (at_ + 8 + frN b at_) := by
  unfold ScanSo at h ⊢
  rw [h]
  have hl := frOk_le ho
  have e : scanN (b.length + 1) b at_ = (frP b at_ :: (scanN b.length b (at_ + 8 + frN b at_)).1, (scanN b.length b (at_ + 8 + frN b at_)).2) := by
    rw [scanN, if_pos ho]
  rw [e, scanN_more b.length (b.length + 1) b (at_ + 8 + frN b at_) (by omega) (by omega)]
  simp

theorem ScanSo.stop {b : List UInt8} {l : List (List UInt8)} {at_ : Nat} (h : ScanSo b l at_) (ho : frOk b at_ = false) : scanL b = (l, at_) := by
  unfold ScanSo at h
  rw [h, scanN, if_neg (by rw [ho]; simp)]
  simp

/-! ### A record that stands there is told. -/

theorem sumL_lt32 (l : List UInt8) : sumL l < 256 ^ 4 := by
  have := sumL_lt l
  omega

/-- The parts of a place where a record stands whole. -/
theorem frame_parts (a p c : List UInt8) (hp : p.length ≤ 1048576) : frN (a ++ (frRaw p ++ c)) a.length = p.length ∧ valL (((a ++ (frRaw p ++ c)).drop (a.length + 4)).take 4) = sumL p ∧ frP (a ++ (frRaw p ++ c)) a.length = p := by
  have d0 : (a ++ (frRaw p ++ c)).drop a.length = frRaw p ++ c := by simp
  have d4 : (a ++ (frRaw p ++ c)).drop (a.length + 4) = fixL (sumL p : Int) 4 ++ (p ++ c) := by
    rw [← List.drop_drop, d0]
    unfold frRaw
    rw [List.append_assoc, List.append_assoc, List.drop_left' (fixL_length _ _)]
  have d8 : (a ++ (frRaw p ++ c)).drop (a.length + 8) = p ++ c := by
    rw [show a.length + 8 = a.length + 4 + 4 from rfl, ← List.drop_drop, d4, List.drop_left' (fixL_length _ _)]
  have n0 : frN (a ++ (frRaw p ++ c)) a.length = p.length := by
    unfold frN
    rw [d0]
    unfold frRaw
    rw [List.append_assoc, List.append_assoc, List.take_left' (fixL_length _ _)]
    exact valL_fixL _ _ (by omega)
  refine ⟨n0, ?_, ?_⟩
  · rw [d4, List.take_left' (fixL_length _ _)]
    exact valL_fixL _ _ (sumL_lt32 p)
  · unfold frP
    rw [n0, d8]
    simp

theorem frame_there (a p c : List UInt8) (hp : p.length ≤ 1048576) : frOk (a ++ (frRaw p ++ c)) a.length = true := by
  obtain ⟨h1, h2, h3⟩ := frame_parts a p c hp
  unfold frOk
  rw [h1, h2, h3]
  simp only [List.length_append, frRaw_length, Bool.and_eq_true, decide_eq_true_eq]
  exact ⟨⟨by omega, hp⟩, trivial⟩

/-- A record that is cut is none. -/
theorem frame_cut (a p : List UInt8) (m : Nat) (hp : p.length ≤ 1048576) (hm : m < p.length + 8) : frOk (a ++ (frRaw p).take m) a.length = false := by
  unfold frOk
  by_cases h : a.length + 8 + frN (a ++ (frRaw p).take m) a.length ≤ (a ++ (frRaw p).take m).length
  · exfalso
    rw [List.length_append, List.length_take, frRaw_length] at h
    have h8 : 8 ≤ m := by omega
    have hn : frN (a ++ (frRaw p).take m) a.length = p.length := by
      unfold frN
      rw [List.drop_left' rfl, List.take_take, Nat.min_eq_left (by omega)]
      unfold frRaw
      rw [List.append_assoc, List.take_left' (fixL_length _ _)]
      exact valL_fixL _ _ (by omega)
    rw [hn] at h
    omega
  · rw [decide_eq_false h]
    rfl

/-- All of them in a row. -/
def rowL (ls : List (List UInt8)) : List UInt8 := ls.flatMap frRaw
def Short (ls : List (List UInt8)) : Prop := ∀ p ∈ ls, p.length ≤ 1048576

theorem row_cons (p : List UInt8) (ls : List (List UInt8)) : rowL (p :: ls) = frRaw p ++ rowL ls := rfl
theorem row_snoc (p : List UInt8) (ls : List (List UInt8)) : rowL (ls ++ [p]) = rowL ls ++ frRaw p := by simp [rowL]

/-- Those of a row, behind others, with what is none behind. -/
theorem scan_rest : ∀ (ls a : List (List UInt8)) (t : List UInt8), Short ls → (∀ c : List UInt8, frOk (c ++ t) c.length = false) → ScanSo (rowL a ++ (rowL ls ++ t)) a (rowL a).length → scanL (rowL a ++ (rowL ls ++ t)) = (a ++ ls, (rowL (a ++ ls)).length)
  | [], a, t, _, ht, h => by
    have := h.stop (by have := ht (rowL a); simpa [rowL] using this)
    rw [this]
    simp
  | p :: ls, a, t, hs, ht, h => by
    have hp : p.length ≤ 1048576 := hs p (by simp)
    have e : rowL a ++ (rowL (p :: ls) ++ t) = rowL a ++ (frRaw p ++ (rowL ls ++ t)) := by rw [row_cons, List.append_assoc]
    rw [e] at h ⊢
    obtain ⟨h1, h2, h3⟩ := frame_parts (rowL a) p (rowL ls ++ t) hp
    have hn := h.next (frame_there _ _ _ hp)
    rw [h1, h3] at hn
    have e2 : rowL a ++ (frRaw p ++ (rowL ls ++ t)) = rowL (a ++ [p]) ++ (rowL ls ++ t) := by rw [row_snoc, List.append_assoc]
    have e3 : (rowL a).length + 8 + p.length = (rowL (a ++ [p])).length := by rw [row_snoc, List.length_append, frRaw_length]; omega
    rw [e2, e3] at hn
    rw [e2, scan_rest ls (a ++ [p]) t (fun q hq => hs q (by simp [hq])) ht hn]
    simp

/-- **A row of records, cut behind n whole ones and m bytes of the next.** -/
theorem scan_row (ls : List (List UInt8)) (t : List UInt8) (hs : Short ls) (ht : ∀ c : List UInt8, frOk (c ++ t) c.length = false) : scanL (rowL ls ++ t) = (ls, (rowL ls).length) := by
  have := scan_rest ls [] t hs ht (ScanSo.start _)
  simpa [rowL] using this

theorem none_nil (c : List UInt8) : frOk (c ++ []) c.length = false := by
  unfold frOk
  rw [decide_eq_false (by rw [List.append_nil]; omega)]
  rfl

theorem scan_cut (ls : List (List UInt8)) (hs : Short ls) (n k : Nat) (hn : n ≤ ls.length) (h1 : (rowL (ls.take n)).length ≤ k) (h2 : n < ls.length → k < (rowL (ls.take (n + 1))).length) :
    scanL ((rowL ls).take k) = (ls.take n, (rowL (ls.take n)).length) := by
  have hs' : Short (ls.take n) := fun p hp => hs p (List.mem_of_mem_take hp)
  rcases Nat.lt_or_ge n ls.length with h | h
  · have h2' := h2 h
    have hmem : ls[n] ∈ ls := List.getElem_mem h
    rw [List.take_succ_eq_append_getElem h, row_snoc, List.length_append, frRaw_length] at h2'
    have e : ls = ls.take n ++ (ls[n] :: ls.drop (n + 1)) := by
      rw [← List.drop_eq_getElem_cons h, List.take_append_drop]
    have er : rowL ls = rowL (ls.take n) ++ (frRaw ls[n] ++ rowL (ls.drop (n + 1))) := by
      have h3 := congrArg rowL e
      rw [show rowL (ls.take n ++ (ls[n] :: ls.drop (n + 1))) = rowL (ls.take n) ++ (frRaw ls[n] ++ rowL (ls.drop (n + 1))) from by unfold rowL; rw [List.flatMap_append, List.flatMap_cons]] at h3
      exact h3
    have et : (rowL ls).take k = rowL (ls.take n) ++ (frRaw ls[n]).take (k - (rowL (ls.take n)).length) := by
      rw [er, List.take_append, List.take_of_length_le h1, List.take_append]
      have : k - (rowL (ls.take n)).length - (frRaw ls[n]).length = 0 := by rw [frRaw_length]; omega
      rw [this]
      simp
    rw [et]
    exact scan_row _ _ hs' fun c => frame_cut c ls[n] _ (hs _ hmem) (by omega)
  · have hn' : n = ls.length := by omega
    subst hn'
    rw [List.take_length] at h1 ⊢
    rw [List.take_of_length_le (by omega)]
    have := scan_row ls [] hs none_nil
    simpa using this
end Go.Proofs.Yteeikmpfgbfeoaa

/-
  Slices of slices of bytes: what reads as a list of lists of bytes; one of the call's own.
-/
namespace Go.Proofs.Yteeikmpfgbfeoaa
open Go.RowKit

/-- The slice 'v' of slices reads as the lists of bytes 'ls'. -/
def RdLL (w : World) (v : Value) (ls : List (List UInt8)) : Prop := ∃ cs : List Value, Rd w 1 v ls.length cs ∧ ∀ (i : Nat) (c : Value) (l : List UInt8), cs[i]? = some c → ls[i]? = some l → RdB w c l

theorem RdLL.below {w w' : World} {v : Value} {ls : List (List UInt8)} (h : RdLL w v ls) {B : Nat} (hb : Below B w w') (hB : w.heap.size ≤ B) : RdLL w' v ls := by
  obtain ⟨cs, h1, h2⟩ := h
  exact ⟨cs, h1.below hb hB, fun i c l hc hl => (h2 i c l hc hl).below hb hB⟩

theorem RdLL.form {w : World} {v : Value} {ls : List (List UInt8)} (h : RdLL w v ls) : ∃ a cap, v = .slice a ls.length cap ∧ ls.length ≤ cap ∧ cap ≤ maxLen := by
  obtain ⟨cs, ⟨a, cap, rfl, h1, h2, _⟩, _⟩ := h
  exact ⟨a, cap, rfl, h1, h2⟩

/-- One of them. -/
theorem RdLL.at_ {w : World} {la : Option Addr} {lc : Nat} {ls : List (List UInt8)} (h : RdLL w (.slice la ls.length lc) ls) {i : Nat} {l : List UInt8} (hl : ls[i]? = some l) :
    ∃ b o a cap, la = some ⟨b, o, none⟩ ∧ w.cell? ⟨b, o + i, none⟩ = some (.slice a l.length cap) ∧ RdB w (.slice a l.length cap) l ∧ b < w.heap.size := by
  obtain ⟨cs, ⟨a, cap, hv, h1, h2, h3, h4⟩, h5⟩ := h
  cases hv
  have hi : i < ls.length := (List.getElem?_eq_some_iff.1 hl).1
  obtain ⟨c, hc⟩ : ∃ c, cs[i]? = some c := ⟨_, List.getElem?_eq_getElem (by omega)⟩
  have hr := h5 i c l hc hl
  obtain ⟨a', cap', hcv, _, _⟩ := hr.form
  rcases h4 with ⟨h4, _⟩ | ⟨b, o, rfl, hb, hcell⟩
  · omega
  · exact ⟨b, o, a', cap', rfl, by rw [hcell i c hc, hcv], hcv ▸ hr, hb⟩

/-- A slice of slices of the call's own: what it holds lies in memory of the call's own, too, and in none of its blocks. -/
def OwnLL (w : World) (B e e' : Nat) (v : Value) (ls : List (List UInt8)) : Prop :=
  ∃ cs : List Value, w.ownsRow B e' 1 v ls.length cs ∧ ∀ (i : Nat) (c : Value) (l : List UInt8), cs[i]? = some c → ls[i]? = some l → OwnB w B e c l ∧ ∀ k, c.ownBlock = some k → v.ownBlock ≠ some k

theorem OwnLL.nil (w : World) (B e e' : Nat) : OwnLL w B e e' (.slice none 0 0) [] := ⟨[], World.ownsRow_nil _ _ _ _, fun i c l h => by simp at h⟩

theorem OwnLL.read {w : World} {B e e' : Nat} {v : Value} {ls : List (List UInt8)} (h : OwnLL w B e e' v ls) : RdLL w v ls := by
  obtain ⟨cs, h1, h2⟩ := h
  exact ⟨cs, rd_of_own h1, fun i c l hc hl => (h2 i c l hc hl).1.read⟩

theorem OwnLL.below {w w' : World} {B B' e e' : Nat} {v : Value} {ls : List (List UInt8)} (h : OwnLL w B e e' v ls) (hb : Below B' w w') (hB : w.heap.size ≤ B') : OwnLL w' B e e' v ls := by
  obtain ⟨cs, h1, h2⟩ := h
  refine ⟨cs, own_kept h1 (R := fun k => k < B') (Kept.of hb fun _ h => h) fun k hk => ?_, fun i c l hc hl => ⟨(h2 i c l hc hl).1.below hb hB, (h2 i c l hc hl).2⟩⟩
  have := own_lt h1 k hk
  omega

/-- One more, told by a call: 'append(s, x)' of a slice that lies in none of its blocks. -/
theorem OwnLL.more {w w' : World} {B e e' : Nat} {v v' c : Value} {ls : List (List UInt8)} {l : List UInt8} {cs : List Value} (h1 : w.ownsRow B e' 1 v ls.length cs)
    (h2 : ∀ (i : Nat) (c : Value) (l : List UInt8), cs[i]? = some c → ls[i]? = some l → OwnB w B e c l ∧ ∀ k, c.ownBlock = some k → v.ownBlock ≠ some k)
    (hc : OwnB w B e c l) (hcv : ∀ k, c.ownBlock = some k → v.ownBlock ≠ some k) (hB : B ≤ w.heap.size) (hown : w'.ownsRow 0 e' 1 v' (ls.length + 1) (cs ++ [c])) (hm : Moves w w' v v') : OwnLL w' B e e' v' (ls ++ [l]) := by
  have hlen : cs.length = ls.length := by have := h1.1; omega
  have hv' : ∀ k, v'.ownBlock = some k → v.ownBlock = some k ∨ w.heap.size ≤ k := fun k hk => (hm.at_ k hk).imp id fun h => h.1
  have keep : ∀ (c : Value) (l : List UInt8), OwnB w B e c l → (∀ k, c.ownBlock = some k → v.ownBlock ≠ some k) → OwnB w' B e c l ∧ ∀ k, c.ownBlock = some k → v'.ownBlock ≠ some k := by
    intro c l ho hne
    refine ⟨own_kept ho (hm.kept (R := fun k => k < w.heap.size ∧ v.ownBlock ≠ some k) fun k h => h) fun k hk => ⟨own_lt ho k hk, hne k hk⟩, fun k hk h => ?_⟩
    rcases hv' k h with h | h
    · exact hne k hk h
    · have := own_lt ho k hk
      omega
  have hbase : w'.ownsRow B e' 1 v' (ls.length + 1) (cs ++ [c]) := own_base hown fun k hk => by
    rcases hv' k hk with h | h
    · exact (World.ownsRow.lt h1 k h).1
    · omega
  refine ⟨cs ++ [c], by rw [List.length_append]; exact hbase, fun i d m hd hm' => ?_⟩
  · rcases Nat.lt_or_ge i cs.length with hi | hi
    · rw [List.getElem?_append_left hi] at hd
      rw [List.getElem?_append_left (by omega)] at hm'
      exact keep d m (h2 i d m hd hm').1 (h2 i d m hd hm').2
    · rw [List.getElem?_append_right hi] at hd
      rw [List.getElem?_append_right (by omega), ← hlen] at hm'
      obtain ⟨hi0, hd0⟩ := List.getElem?_eq_some_iff.1 hd
      have hz : i - cs.length = 0 := by simpa using hi0
      rw [hz] at hd hm'
      cases hd
      cases hm'
      exact keep c l hc hcv

/-- One more: what a call told, put behind. -/
theorem OwnLL.push {w0 w1 : World} {B e e' e2 : Nat} {v c : Value} {ls : List (List UInt8)} {l : List UInt8} (h : OwnLL w0 B e e' v ls) (hb : Below w0.heap.size w0 w1) (hB : B ≤ w0.heap.size) (hc : OwnB w1 w0.heap.size e c l) :
    ∃ cs : List Value, (w1.alloc (.cells #[c] e2)).ownsRow 0 e' 1 v ls.length cs ∧ Rd (w1.alloc (.cells #[c] e2)) 1 (.slice (some ⟨w1.heap.size, 0, none⟩) 1 1) 1 [c] ∧
      ∀ v' w', w'.ownsRow 0 e' 1 v' (ls.length + 1) (cs ++ [c]) → Moves (w1.alloc (.cells #[c] e2)) w' v v' → OwnLL w' B e e' v' (ls ++ [l]) ∧ Below B w0 w' := by
  obtain ⟨cs, h1, h2⟩ := h
  have hal : Below w1.heap.size w1 (w1.alloc (.cells #[c] e2)) := (Below.refl _ _).alloc (Nat.le_refl _) _
  have hb2 : Below w0.heap.size w0 (w1.alloc (.cells #[c] e2)) := hb.trans (hal.mono hb.size)
  have hown : ∀ {B' : Nat}, B' ≤ B → (w1.alloc (.cells #[c] e2)).ownsRow B' e' 1 v ls.length cs := fun {B'} hB' =>
    own_base (own_kept h1 (R := fun k => k < w0.heap.size) (Kept.of hb2 fun _ h => h) fun k hk => own_lt h1 k hk) fun k hk => Nat.le_trans hB' (World.ownsRow.lt h1 k hk).1
  refine ⟨cs, hown (Nat.zero_le _), ⟨_, 1, rfl, Nat.le_refl _, by unfold maxLen; omega, rfl, .inr ⟨w1.heap.size, 0, rfl, by simp, fun j u hj => ?_⟩⟩, fun v' w' h3 h4 => ⟨?_, ?_⟩⟩
  · rw [Nat.zero_add, blk_cell (heap_alloc_new w1 (.cells #[c] e2))]
    simpa using hj
  · refine OwnLL.more (hown (Nat.le_refl _)) (fun i d m hd hm => ⟨(h2 i d m hd hm).1.below hb2 (Nat.le_refl _), (h2 i d m hd hm).2⟩) (own_base (OwnB.below hc hal (Nat.le_refl _)) fun k hk => Nat.le_trans hB (World.ownsRow.lt hc k hk).1) (fun k hk hv => ?_) (Nat.le_trans hB hb2.size) h3 h4
    have := (World.ownsRow.lt hc k hk).1
    have := own_lt h1 k hv
    omega
  · exact (hb2.mono hB).grown h4.grown (Nat.le_trans hB hb2.size) fun k hk => (World.ownsRow.lt h1 k hk).1
end Go.Proofs.Yteeikmpfgbfeoaa
