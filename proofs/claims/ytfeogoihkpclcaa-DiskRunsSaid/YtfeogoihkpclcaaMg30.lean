import Derived.Test.YtfeogoihkpclcaaMg29
import Derived.Test.YtfeogoihkpclcaaMg26
import Derived.Test.YtfeogoihkpclcaaMg03
import Derived.Test.YtfeogoihkpclcaaMg00
import Derived.Test.YtfeogoihkpclcaaMg12
import Derived.Test.YtfeogoihkpclcaaRows
import Derived.ProofKit
import Derived.OpenShut
import Derived.ShutString
import Derived.ChangeOld
import Derived.Test.YtfeogoihkpclcaaMg16
import Derived.Test.YtfeogoihkpclcaaMg14

/-
  The document's Fall, with the program's disk beside it.
-/
namespace Go.Proofs.Ytfeogoihkpclcaa
open Go.RowKit

section
variable {W w : World} {p q : Nat} {d d0 : PD} {m m0 : DM} {n k : Nat} {x : Obj}

theorem bd_fall (h : Bn W w p q d m n x) (ha : Al d0 m k) (hk : k ≤ 200) (z : DP) (hkl : z.keep.length ≤ 50) (hnn : -9223372036854775808 ≤ z.names ∧ z.names ≤ 9223372036854775807) (hkn : ∀ y ∈ z.keep, -9223372036854775808 ≤ y ∧ y ≤ 9223372036854775807) (ka : Option Addr) (kc : Nat) (hr : Rd W 1 (.slice ka z.keep.length kc) z.keep.length (z.keep.map (Value.int .i64))) :
    Calls Try.prog 40 #[.pointer (some ⟨q, 0, none⟩), .agg #[.int .i64 z.room, .int .i64 z.crash, .bool z.done, .slice ka z.keep.length kc, .int .i64 z.names]] w fun e w' => e = .returned (.tuple #[]) ∧ Bn W w' p q d (m.fall z) n x := by
  obtain ⟨g, o, hc, hx, hg, ho⟩ := h
  obtain ⟨v, gs, hd⟩ := hc.ra
  have hq : z.keep.length ≤ kc ∧ (z.keep = [] ∨ ∃ kb ko, ka = some ⟨kb, ko, none⟩ ∧ kb < w.heap.size ∧ o kb = .out ∧ ∀ i, i < z.keep.length → w.cell? ⟨kb, ko + i, none⟩ = some (.int .i64 (z.keep.getD i 0))) := by
    have hrw := hr.below hc.be (Nat.le_refl _)
    obtain ⟨a, cap, e, h1, h2, h3, h4⟩ := hr
    cases e
    refine ⟨h1, ?_⟩
    by_cases h0 : z.keep = []
    · exact .inl h0
    · have hpos : 0 < z.keep.length := List.length_pos_iff.2 h0
      rcases h4 with ⟨h5, _⟩ | ⟨b, off, rfl, h5, h6⟩
      · omega
      · obtain ⟨a', cap', e', _, _, _, h4'⟩ := hrw
        cases e'
        rcases h4' with ⟨h5', _⟩ | ⟨b', off', e', h5', h6'⟩
        · omega
        · cases e'
          refine .inr ⟨b, off, rfl, h5', ?_, fun i hi => h6' i _ (by rw [List.getElem?_map, List.getD_eq_getElem?_getD, List.getElem?_eq_getElem hi]; rfl)⟩
          cases hz : o b with
          | out => rfl
          | _ => exact absurd (hc.ow b (by unfold DF_; rw [hz]; simp)) (by omega)
  refine (dfall_any hd z (ha.dfa hk z hkl hnn hkn) ka kc hq.1 hq.2).mono ?_
  rintro e w' ⟨rfl, k1⟩
  exact ⟨rfl, bn_doc hc hx hg ho k1⟩

end
end Go.Proofs.Ytfeogoihkpclcaa

/-
  One act on both disks: a fall.
-/
namespace Go.Proofs.Ytfeogoihkpclcaa
open Go.RowKit

set_option maxRecDepth 100000 in
set_option maxHeartbeats 4000000 in
set_option linter.unusedSimpArgs false in
set_option linter.unusedVariables false in
theorem step_fall {W w : World} {p q : Nat} {pd : PD} {m : DM} {k : Nat} (h : Bb W w p q pd m) (hal : Al pd m k) (hk : k ≤ 200) (s : ByteArray) (hsz : s.size ≤ maxLen) (t : ByteArray) (htz : t.size ≤ maxLen) (a c : Int) (hia : -9223372036854775808 ≤ a ∧ a ≤ 9223372036854775807) (hic : -9223372036854775808 ≤ c ∧ c ≤ 9223372036854775807) (va : Option Addr) (vc : Nat) (b : List UInt8) (hv : RdB W (.slice va b.length vc) b) (hbl : b.length ≤ 300) (z : DP) (hkl : z.keep.length ≤ 50) (hnn : -9223372036854775808 ≤ z.names ∧ z.names ≤ 9223372036854775807) (hkn : ∀ y ∈ z.keep, -9223372036854775808 ≤ y ∧ y ≤ 9223372036854775807) (ka : Option Addr) (kc : Nat) (hr : Rd W 1 (.slice ka z.keep.length kc) z.keep.length (z.keep.map (Value.int .i64))) :
    Calls Try.prog 9 #[.pointer (some ⟨p, 0, none⟩), .pointer (some ⟨q, 0, none⟩), .agg #[.int .i64 9, .string s, .string t, .int .i64 a, .int .i64 c, .slice va b.length vc, .int .i64 z.room, .int .i64 z.crash, .bool z.done, .slice ka z.keep.length kc, .int .i64 z.names]] w fun e w' => e = .returned (.bool true) ∧ Bb W w' p q (pd.fallen z) (m.fall z) ∧ Al (pd.fallen z) (m.fall z) (k + 1) := by
  have HAL := Lib.hid hal
  have HD := Lib.hid hv
  have HR := Lib.hid hr
  have HKN := Lib.hid hkn
  have HNN := Lib.hid hnn
  have HA := Lib.hid (h.alloc (.cells #[.int .i64 9, .string s, .string t, .int .i64 a, .int .i64 c, .slice va b.length vc, .int .i64 z.room, .int .i64 z.crash, .bool z.done, .slice ka z.keep.length kc, .int .i64 z.names] 34 (0, 0)) (heap_alloc_new w _))
  clear hv hr hkn hnn
  have HZ := Lib.hid (al_fall hal z)
  clear h hal
  go_enter Try.func9, Try.ntmps9
  go_wp2_with (first | (go_at_call 20; refine (bn_fall HA.out HAL.out hk z hkl HNN.out HKN.out ka kc HR.out).mono ?_; rintro e w1 ⟨rfl, h1⟩; have hbx := h1.box; have c6 : w1.cell? ⟨w.heap.size, 6, none⟩ = some (.int .i64 z.room) := blk_cell hbx; have c7 : w1.cell? ⟨w.heap.size, 7, none⟩ = some (.int .i64 z.crash) := blk_cell hbx; have c8 : w1.cell? ⟨w.heap.size, 8, none⟩ = some (.bool z.done) := blk_cell hbx; have c9 : w1.cell? ⟨w.heap.size, 9, none⟩ = some (.slice ka z.keep.length kc) := blk_cell hbx; have c10 : w1.cell? ⟨w.heap.size, 10, none⟩ = some (.int .i64 z.names) := blk_cell hbx; clear hbx; have H1 := Lib.hid h1; clear h1) | (go_at_call 40; refine (bd_fall H1.out HAL.out hk z hkl HNN.out HKN.out ka kc HR.out).mono ?_; rintro e w2 ⟨rfl, h2⟩; have H2 := Lib.hid h2; clear h2))
  go_ret
  exact ⟨rfl, H2.out.bb, HZ.out⟩
end Go.Proofs.Ytfeogoihkpclcaa

/-
  SameFiles of one list of files, told twice, whatever is loose.
-/
namespace Go.Proofs.Ytfeogoihkpclcaa
open Go.RowKit

theorem fi_at : ∀ {l : List (List UInt8 × List UInt8 × Nat)} {i : Nat} {x : List UInt8 × List UInt8 × Nat}, l[i]? = some x → (fiCells l)[i * 3]? = some (.string (strB x.1)) ∧ (fiCells l)[i * 3 + 1]? = some (.string (strB x.2.1)) ∧ (fiCells l)[i * 3 + 2]? = some (.int .i64 (x.2.2 : Int))
  | [], i, x, h => by simp at h
  | y :: r, 0, x, h => by
    simp at h
    subst h
    exact ⟨rfl, rfl, rfl⟩
  | y :: r, i + 1, x, h => by
    obtain ⟨h1, h2, h3⟩ := fi_at (l := r) (i := i) (by simpa using h)
    have hl : ∀ k, 3 ≤ k → (fiCells (y :: r))[k]? = (fiCells r)[k - 3]? := by
      intro k hk
      unfold fiCells
      rw [List.flatMap_cons, List.getElem?_append_right (by simpa using hk)]
      rfl
    refine ⟨?_, ?_, ?_⟩
    · rw [hl _ (by omega), show (i + 1) * 3 - 3 = i * 3 by omega]; exact h1
    · rw [hl _ (by omega), show (i + 1) * 3 + 1 - 3 = i * 3 + 1 by omega]; exact h2
    · rw [hl _ (by omega), show (i + 1) * 3 + 2 - 3 = i * 3 + 2 by omega]; exact h3

theorem rd_fi {w : World} {la : Option Addr} {lc : Nat} {l : List (List UInt8 × List UInt8 × Nat)} (h : Rd w 3 (.slice la l.length lc) l.length (fiCells l)) {i : Nat} {x : List UInt8 × List UInt8 × Nat} (hx : l[i]? = some x) : ∃ lb lo, la = some ⟨lb, lo, none⟩ ∧ w.cell? ⟨lb, lo + i * 3, none⟩ = some (.string (strB x.1)) ∧ w.cell? ⟨lb, lo + i * 3 + 1, none⟩ = some (.string (strB x.2.1)) ∧ w.cell? ⟨lb, lo + i * 3 + 2, none⟩ = some (.int .i64 (x.2.2 : Int)) ∧ lb < w.heap.size := by
  obtain ⟨a, cap, hv, _, _, _, h3⟩ := h
  cases hv
  have hil := (List.getElem?_eq_some_iff.1 hx).1
  rcases h3 with ⟨h0, _⟩ | ⟨b, off, rfl, hb, hc⟩
  · omega
  · exact ⟨b, off, rfl, hc (i * 3) _ (fi_at hx).1, by rw [Nat.add_assoc]; exact hc (i * 3 + 1) _ (fi_at hx).2.1, by rw [Nat.add_assoc]; exact hc (i * 3 + 2) _ (fi_at hx).2.2, hb⟩

set_option maxRecDepth 100000 in
set_option maxHeartbeats 8000000 in
set_option linter.unusedSimpArgs false in
set_option linter.unusedVariables false in
theorem same3_any (w : World) (va vb : Value) (l : List (List UInt8 × List UInt8 × Nat)) (hl : l.length < 1000000) (ha : Rd w 3 va l.length (fiCells l)) (hb : Rd w 3 vb l.length (fiCells l)) :
    Calls Try.prog 10 #[va, vb] w fun e w' => e = .returned (.bool true) ∧ Below w.heap.size w w' := by
  have HA0 := Lib.hid ha
  have HB0 := Lib.hid hb
  obtain ⟨aa, ca, rfl, a1, a2, _, a4⟩ := ha
  obtain ⟨ab, cb, rfl, b1, b2, _, b4⟩ := hb
  have HA := Lib.hid a4
  have HB := Lib.hid b4
  clear a4 b4
  go_enter Try.func10, Try.ntmps10
  go_wp2
  go_loopw [5] (fun i wr => ∃ k : Nat, k ≤ l.length ∧ i = .int .i64 k ∧ Below w.heap.size w wr) (fun i _ => l.length - (intOf i).toNat)
  case atStart => exact ⟨0, Nat.zero_le _, rfl, Below.refl _ _⟩
  case round =>
    obtain ⟨k, hk, rfl, hbl⟩ := hrel
    have HBL := Lib.hid hbl
    clear hbl
    by_cases hlt : k < l.length
    · obtain ⟨x, hx⟩ : ∃ x, l[k]? = some x := ⟨_, List.getElem?_eq_getElem hlt⟩
      rcases HA.out with ⟨h0, _⟩ | ⟨ba, oa, rfl, hba, hca⟩
      · omega
      · rcases HB.out with ⟨h0, _⟩ | ⟨bb, ob, rfl, hbb, hcb⟩
        · omega
        · obtain ⟨_, _, hqa, da0, da1, da2, _⟩ := rd_fi HA0.out hx; cases hqa
          have ea0 := (HBL.out.cell (p := ⟨ba, oa + k * 3, none⟩) hba).trans da0
          have ea1 := (HBL.out.cell (p := ⟨ba, oa + k * 3 + 1, none⟩) hba).trans da1
          have ea2 := (HBL.out.cell (p := ⟨ba, oa + k * 3 + 2, none⟩) hba).trans da2
          clear da0 da1 da2
          obtain ⟨_, _, hqb, db0, db1, db2, _⟩ := rd_fi HB0.out hx; cases hqb
          have eb0 := (HBL.out.cell (p := ⟨bb, ob + k * 3, none⟩) hbb).trans db0
          have eb1 := (HBL.out.cell (p := ⟨bb, ob + k * 3 + 1, none⟩) hbb).trans db1
          have eb2 := (HBL.out.cell (p := ⟨bb, ob + k * 3 + 2, none⟩) hbb).trans db2
          clear db0 db1 db2
          clear hca hcb hx
          go_wp2
          go_quiet (fail)
          go_wp2
          go_roundw
          case rel => exact ⟨k + 1, by omega, by go_num, below_drewN HBL.out _⟩
          case measure => simp [intOf]; omega
    · go_wp2
      go_ret
      exact ⟨rfl, HBL.out⟩
end Go.Proofs.Ytfeogoihkpclcaa

/-
  How arguments are opened: a slice of bytes that came in reads as a list of bytes; a slice of integers as a list of integers.
-/
namespace Go.Proofs.Ytfeogoihkpclcaa
open Go.ChangeShapes Go.WideShapes Go.ChangeAt Go.RowKit

/-- The slice 'v' reads as the integers 'zs' (each of them fits the kind 'k') in world 'w'. -/
def RdI (k : IntKind) (w : World) (v : Value) (zs : List Int) : Prop :=
  ∃ a cap, v = .slice a zs.length cap ∧ zs.length ≤ cap ∧ cap ≤ maxLen ∧ (∀ n ∈ zs, (Lit.int k n).wf = true) ∧
    ((zs = [] ∧ (a = none → cap = 0)) ∨ ∃ b off, a = some ⟨b, off, none⟩ ∧ b < w.heap.size ∧ ∀ i, i < zs.length → w.cell? ⟨b, off + i, none⟩ = some (.int k (zs.getD i 0)))

theorem rdI_open {H : Type} {enc : TypeId × Value → H} {P : Program} {w : World} {k : IntKind} {t e : TypeId} {base : Nat} {m : Nat} {spare : Nat → Bool} {held : Bool} {v : Value} {d : DataW H} {p : List MemPlace} (ht : P.underlying t = some (.slice e)) (he : P.underlying e = some (.int k)) (hc : P.cellsOf e = 1)
    (hok : Value.okWide P w .any base t v) (hd : DataW.Trod enc P w m spare held t v d p) : ∃ zs, RdI k w v zs := by
  obtain ⟨a, len, cap, rfl⟩ := okWide_slice ht hok
  obtain ⟨fuel, hf⟩ := hd
  rcases open_ints ht he hc hf with ⟨hcs, _⟩ | ⟨x, l, c, zs, hcs, _, hl, hm, hz, _, hcell, hwz⟩
  · simp [Value.cells] at hcs
    obtain ⟨rfl, rfl, rfl⟩ := hcs
    exact ⟨[], none, 0, rfl, Nat.le_refl _, Nat.zero_le _, by simp, .inl ⟨rfl, fun _ => rfl⟩⟩
  · simp [Value.cells] at hcs
    obtain ⟨rfl, rfl, rfl⟩ := hcs
    have hz' : len ≤ zs.length := by rw [hz]; split <;> omega
    have hlen : (zs.take len).length = len := by rw [List.length_take]; omega
    refine ⟨zs.take len, some x, cap, by rw [hlen], by rw [hlen]; exact hl, hm, fun n hn => hwz n (List.mem_of_mem_take hn), ?_⟩
    by_cases h0 : len = 0
    · left; subst h0; exact ⟨rfl, fun h => by cases h⟩
    · right
      obtain ⟨b, off, spot⟩ := x
      have hc0 := hcell 0 (by omega)
      have hspot : spot = none := by simpa [Addr.add] using World.cell?_spot hc0
      subst hspot
      refine ⟨b, off, rfl, World.block_lt_of_cell? w _ hc0, fun i hi => ?_⟩
      have hi' : i < len := by omega
      have h1 := hcell i (by omega)
      have hadd : (⟨b, off, none⟩ : Addr).add i = ⟨b, off + i, none⟩ := by unfold Addr.add; split <;> simp_all
      rw [hadd] at h1
      rw [h1]
      simp [List.getD, hi']

theorem RdI.bytes {w : World} {v : Value} {zs : List Int} (h : RdI .u8 w v zs) : ∃ l, RdB w v l := by
  obtain ⟨a, cap, rfl, h1, h2, h3, h4⟩ := h
  have key : ∀ (zs : List Int), (∀ n ∈ zs, (Lit.int .u8 n).wf = true) → ∃ l : List UInt8, l.map (fun c => (c.toNat : Int)) = zs := by
    intro zs
    induction zs with
    | nil => exact fun _ => ⟨[], rfl⟩
    | cons z zs ih =>
      intro h
      obtain ⟨l, hl⟩ := ih fun n hn => h n (List.mem_cons_of_mem _ hn)
      have hz := bounds_u8 (h z (List.mem_cons_self ..))
      refine ⟨UInt8.ofNat z.toNat :: l, ?_⟩
      rw [List.map_cons, hl, UInt8.toNat_ofNat', Nat.mod_eq_of_lt (by omega)]
      congr 1
      omega
  obtain ⟨l, rfl⟩ := key zs h3
  simp only [List.length_map] at h1 h4 ⊢
  refine ⟨l, a, cap, rfl, h1, h2, by simp, ?_⟩
  rcases h4 with ⟨h4, h5⟩ | ⟨b, off, rfl, h5, h6⟩
  · left; exact ⟨by simpa using h4, h5⟩
  · refine .inr ⟨b, off, rfl, h5, fun j u hj => ?_⟩
    have hj' : j < l.length := by
      rcases Nat.lt_or_ge j l.length with h | h
      · exact h
      · simp [List.getElem?_eq_none h] at hj
    rw [h6 j hj']
    simp [hj'] at hj
    simp [List.getD, hj', hj]

theorem rdB_open {H : Type} {enc : TypeId × Value → H} {P : Program} {w : World} {t e : TypeId} {base : Nat} {m : Nat} {spare : Nat → Bool} {held : Bool} {v : Value} {d : DataW H} {p : List MemPlace} (ht : P.underlying t = some (.slice e)) (he : P.underlying e = some (.int .u8)) (hc : P.cellsOf e = 1)
    (hok : Value.okWide P w .any base t v) (hd : DataW.Trod enc P w m spare held t v d p) : ∃ l, RdB w v l :=
  let ⟨_, h⟩ := rdI_open ht he hc hok hd
  h.bytes
end Go.Proofs.Ytfeogoihkpclcaa

/-
  An act, as it lies in memory; what is heavy.
-/
namespace Go.Proofs.Ytfeogoihkpclcaa
open Go.RowKit

structure Act7 where
  d : Int
  name : ByteArray
  dest : ByteArray
  a : Int
  c : Int
  dv : Value
  data : List UInt8
  room : Int
  crash : Int
  done : Bool
  kv : Value
  keep : List Int
  names : Int

def Act7.cells (x : Act7) : List Value := [.int .i64 x.d, .string x.name, .string x.dest, .int .i64 x.a, .int .i64 x.c, x.dv, .int .i64 x.room, .int .i64 x.crash, .bool x.done, x.kv, .int .i64 x.names]

structure Act7.Fits (W : World) (x : Act7) : Prop where
  size : x.name.size ≤ maxLen
  to_ : x.dest.size ≤ maxLen
  at_ : -9223372036854775808 ≤ x.a ∧ x.a ≤ 9223372036854775807
  num : -9223372036854775808 ≤ x.c ∧ x.c ≤ 9223372036854775807
  data : RdB W x.dv x.data
  keep : RdI .i64 W x.kv x.keep
  nms : -9223372036854775808 ≤ x.names ∧ x.names ≤ 9223372036854775807

theorem RdI.below {k : IntKind} {w w' : World} {v : Value} {zs : List Int} (h : RdI k w v zs) (hb : Below w.heap.size w w') : RdI k w' v zs := by
  obtain ⟨a, cap, e, h1, h2, h3, h4⟩ := h
  refine ⟨a, cap, e, h1, h2, h3, ?_⟩
  rcases h4 with h4 | ⟨b, off, e1, h5, h6⟩
  · exact .inl h4
  · exact .inr ⟨b, off, e1, Nat.lt_of_lt_of_le h5 hb.size, fun i hi => (hb.cell (p := ⟨b, off + i, none⟩) h5).trans (h6 i hi)⟩

theorem Act7.Fits.below {W w' : World} {x : Act7} (h : x.Fits W) (hb : Below W.heap.size W w') : x.Fits w' :=
  ⟨h.size, h.to_, h.at_, h.num, h.data.below hb (Nat.le_refl _), h.keep.below hb, h.nms⟩

def RdA (W : World) (v : Value) (xs : List Act7) : Prop := Rd W 11 v xs.length (xs.flatMap Act7.cells) ∧ ∀ x ∈ xs, x.Fits W

theorem act_cells_at : ∀ {xs : List Act7} {k : Nat} {x : Act7} (j : Nat) (u : Value), xs[k]? = some x → x.cells[j]? = some u → j < 11 → (xs.flatMap Act7.cells)[k * 11 + j]? = some u
  | [], k, x, j, u, h, _, _ => by simp at h
  | y :: r, 0, x, j, u, h, hu, hj => by
    simp at h
    subst h
    rw [List.flatMap_cons, List.getElem?_append_left (by simpa [Act7.cells] using hj)]
    simpa using hu
  | y :: r, k + 1, x, j, u, h, hu, hj => by
    have ih := act_cells_at (xs := r) (k := k) j u (by simpa using h) hu hj
    have hl : y.cells.length = 11 := rfl
    rw [List.flatMap_cons, List.getElem?_append_right (by rw [hl]; omega), hl]
    rw [show (k + 1) * 11 + j - 11 = k * 11 + j by omega]
    exact ih

theorem rda_cells {W : World} {a : Option Addr} {cap : Nat} {xs : List Act7} (h : Rd W 11 (.slice a xs.length cap) xs.length (xs.flatMap Act7.cells)) {k : Nat} {x : Act7} (hx : xs[k]? = some x) : ∃ b o, a = some ⟨b, o, none⟩ ∧ b < W.heap.size ∧ W.cell? ⟨b, o + k * 11, none⟩ = some (.int .i64 x.d) ∧ W.cell? ⟨b, o + k * 11 + 1, none⟩ = some (.string x.name) ∧ W.cell? ⟨b, o + k * 11 + 2, none⟩ = some (.string x.dest) ∧ W.cell? ⟨b, o + k * 11 + 3, none⟩ = some (.int .i64 x.a) ∧ W.cell? ⟨b, o + k * 11 + 4, none⟩ = some (.int .i64 x.c) ∧ W.cell? ⟨b, o + k * 11 + 5, none⟩ = some (x.dv) ∧ W.cell? ⟨b, o + k * 11 + 6, none⟩ = some (.int .i64 x.room) ∧ W.cell? ⟨b, o + k * 11 + 7, none⟩ = some (.int .i64 x.crash) ∧ W.cell? ⟨b, o + k * 11 + 8, none⟩ = some (.bool x.done) ∧ W.cell? ⟨b, o + k * 11 + 9, none⟩ = some (x.kv) ∧ W.cell? ⟨b, o + k * 11 + 10, none⟩ = some (.int .i64 x.names) := by
  obtain ⟨a', cap', hv, _, _, _, h3⟩ := h
  cases hv
  have hil := (List.getElem?_eq_some_iff.1 hx).1
  rcases h3 with ⟨h0, _⟩ | ⟨b, off, rfl, hb, hc⟩
  · omega
  · refine ⟨b, off, rfl, hb, hc (k * 11) _ (act_cells_at 0 _ hx rfl (by decide)), ?_, ?_, ?_, ?_, ?_, ?_, ?_, ?_, ?_, ?_⟩
    all_goals rw [Nat.add_assoc]
    · exact hc _ _ (act_cells_at 1 _ hx rfl (by decide))
    · exact hc _ _ (act_cells_at 2 _ hx rfl (by decide))
    · exact hc _ _ (act_cells_at 3 _ hx rfl (by decide))
    · exact hc _ _ (act_cells_at 4 _ hx rfl (by decide))
    · exact hc _ _ (act_cells_at 5 _ hx rfl (by decide))
    · exact hc _ _ (act_cells_at 6 _ hx rfl (by decide))
    · exact hc _ _ (act_cells_at 7 _ hx rfl (by decide))
    · exact hc _ _ (act_cells_at 8 _ hx rfl (by decide))
    · exact hc _ _ (act_cells_at 9 _ hx rfl (by decide))
    · exact hc _ _ (act_cells_at 10 _ hx rfl (by decide))

def Act7.Ok (x : Act7) : Prop := x.data.length ≤ 300 ∧ x.keep.length ≤ 50

theorem rd_of_rdI {w : World} {v : Value} {zs : List Int} (h : RdI .i64 w v zs) : Rd w 1 v zs.length (zs.map (Value.int .i64)) := by
  obtain ⟨a, cap, rfl, h1, h2, _, h4⟩ := h
  refine ⟨a, cap, rfl, h1, h2, by simp, ?_⟩
  rcases h4 with ⟨rfl, h5⟩ | ⟨b, off, rfl, h5, h6⟩
  · exact .inl ⟨rfl, h5⟩
  · refine .inr ⟨b, off, rfl, h5, fun j u hj => ?_⟩
    have hjl : j < zs.length := by
      rcases Nat.lt_or_ge j zs.length with h | h
      · exact h
      · simp [List.getElem?_eq_none h] at hj
    rw [h6 j hjl]
    simp only [List.getElem?_map, List.getElem?_eq_getElem hjl, Option.map_some, Option.some.injEq] at hj
    rw [← hj]
    simp [List.getD, hjl]

theorem rd_form {w : World} {sz n : Nat} {v : Value} {cs : List Value} (h : Rd w sz v n cs) : ∃ a c, v = .slice a n c ∧ n ≤ c ∧ c ≤ maxLen := by
  obtain ⟨a, c, e, h1, h2, _⟩ := h
  exact ⟨a, c, e, h1, h2⟩

set_option maxRecDepth 100000 in
set_option maxHeartbeats 8000000 in
set_option linter.unusedSimpArgs false in
set_option linter.unusedVariables false in
theorem heavy_any (w : World) (v : Value) (xs : List Act7) (h : RdA w v xs) (bo : Bool) (hbo : bo = true ↔ ¬ (xs.length ≤ 80 ∧ ∀ x ∈ xs, x.Ok)) :
    Calls Try.prog 4 #[v] w fun e w' => e = .returned (.bool bo) ∧ Below w.heap.size w w' := by
  obtain ⟨hr, hf⟩ := h
  have HR0 := hr
  obtain ⟨va, vc, rfl, _, _, _, _⟩ := hr
  have HR := Lib.hid HR0
  have HFT := Lib.hid hf
  have HBO := Lib.hid hbo
  clear HR0 hf hbo
  go_enter Try.func4, Try.ntmps4
  go_wp2
  go_loopw [3] (fun i wr => ∃ k : Nat, k ≤ xs.length ∧ k ≤ 100 ∧ i = .int .i64 k ∧ Hid (Below w.heap.size w wr) ∧ Hid (∀ j x, j < k → xs[j]? = some x → x.Ok)) (fun i _ => xs.length - (intOf i).toNat)
  case atStart => exact ⟨0, Nat.zero_le _, Nat.zero_le _, rfl, Lib.hid (Below.refl _ _), Lib.hid fun j x h => absurd h (Nat.not_lt_zero _)⟩
  case round =>
    obtain ⟨k, hk, hk1, rfl, HB, HO⟩ := hrel
    by_cases hlt : k < xs.length
    · by_cases hlt2 : k < 100
      · obtain ⟨x, hx⟩ : ∃ x, xs[k]? = some x := ⟨_, List.getElem?_eq_getElem hlt⟩
        have HF := Lib.hid (HFT.out x (List.mem_of_getElem? hx))
        obtain ⟨b, o, rfl, hbl, e0, e1, e2, e3, e4, e5, e6, e7, e8, e9, e10⟩ := rda_cells HR.out hx
        have y3 := rd_of_rdI HF.out.keep
        obtain ⟨da, dc, hdv, _, _⟩ := RdB.form HF.out.data
        obtain ⟨na, nc, hnv, _, _⟩ := rd_form y3
        have HDV := Lib.hid hdv
        have HNV := Lib.hid hnv
        rw [hdv] at e5
        rw [hnv] at e9
        have HC := Lib.hid (show ∀ w', Below w.heap.size w w' → w'.cell? ⟨b, o + k * 11, none⟩ = some (.int .i64 x.d) ∧ w'.cell? ⟨b, o + k * 11 + 1, none⟩ = some (.string x.name) ∧ w'.cell? ⟨b, o + k * 11 + 2, none⟩ = some (.string x.dest) ∧ w'.cell? ⟨b, o + k * 11 + 3, none⟩ = some (.int .i64 x.a) ∧ w'.cell? ⟨b, o + k * 11 + 4, none⟩ = some (.int .i64 x.c) ∧ w'.cell? ⟨b, o + k * 11 + 5, none⟩ = some (.slice da x.data.length dc) ∧ w'.cell? ⟨b, o + k * 11 + 6, none⟩ = some (.int .i64 x.room) ∧ w'.cell? ⟨b, o + k * 11 + 7, none⟩ = some (.int .i64 x.crash) ∧ w'.cell? ⟨b, o + k * 11 + 8, none⟩ = some (.bool x.done) ∧ w'.cell? ⟨b, o + k * 11 + 9, none⟩ = some (.slice na x.keep.length nc) ∧ w'.cell? ⟨b, o + k * 11 + 10, none⟩ = some (.int .i64 x.names) from fun w' hw => ⟨(hw.cell (p := ⟨b, o + k * 11, none⟩) hbl).trans e0, (hw.cell (p := ⟨b, o + k * 11 + 1, none⟩) hbl).trans e1, (hw.cell (p := ⟨b, o + k * 11 + 2, none⟩) hbl).trans e2, (hw.cell (p := ⟨b, o + k * 11 + 3, none⟩) hbl).trans e3, (hw.cell (p := ⟨b, o + k * 11 + 4, none⟩) hbl).trans e4, (hw.cell (p := ⟨b, o + k * 11 + 5, none⟩) hbl).trans e5, (hw.cell (p := ⟨b, o + k * 11 + 6, none⟩) hbl).trans e6, (hw.cell (p := ⟨b, o + k * 11 + 7, none⟩) hbl).trans e7, (hw.cell (p := ⟨b, o + k * 11 + 8, none⟩) hbl).trans e8, (hw.cell (p := ⟨b, o + k * 11 + 9, none⟩) hbl).trans e9, (hw.cell (p := ⟨b, o + k * 11 + 10, none⟩) hbl).trans e10⟩)
        clear e0 e1 e2 e3 e4 e5 e6 e7 e8 e9 e10 hdv hnv y3
        have HX := Lib.hid hx
        clear hx
        obtain ⟨c0, c1, c2, c3, c4, c5, c6, c7, c8, c9, c10⟩ := HC.out _ HB.out
        by_cases l1 : x.data.length ≤ 300
        · by_cases l2 : x.keep.length ≤ 50
          · go_wp2
            go_roundw
            case rel =>
              refine ⟨k + 1, by omega, by omega, by go_num, Lib.hid (by first | exact HB.out | exact below_drewN HB.out _), Lib.hid fun j y hj hy => ?_⟩
              rcases Nat.lt_or_ge j k with h1 | h1
              · exact HO.out j y h1 hy
              · have : j = k := by omega
                subst this
                have := HX.out.symm.trans hy
                cases this
                exact ⟨l1, l2⟩
            case measure => simp [intOf]; omega
          · have HB1 : Hid (bo = true) := Lib.hid (HBO.out.2 fun h => l2 (h.2 x (List.mem_of_getElem? HX.out)).2)
            go_wp2
            go_ret
            refine ⟨?_, HB.out⟩
            rw [HB1.out]
            rfl
        · have HB1 : Hid (bo = true) := Lib.hid (HBO.out.2 fun h => l1 (h.2 x (List.mem_of_getElem? HX.out)).1)
          go_wp2
          go_ret
          refine ⟨?_, HB.out⟩
          rw [HB1.out]
          rfl
      · have h80 : 80 < xs.length := by omega
        have HB1 : Hid (bo = true) := Lib.hid (HBO.out.2 fun h => by have := h.1; omega)
        go_wp2
        go_ret
        refine ⟨?_, HB.out⟩
        rw [HB1.out]
        show Ending.returned (.bool (decide (80 < (xs.length : Int)))) = _
        rw [decide_eq_true (by omega)]
    · by_cases h80 : 80 < xs.length
      · have HB1 : Hid (bo = true) := Lib.hid (HBO.out.2 fun h => by have := h.1; omega)
        go_wp2
        go_ret
        refine ⟨?_, HB.out⟩
        rw [HB1.out]
        show Ending.returned (.bool (decide (80 < (xs.length : Int)))) = _
        rw [decide_eq_true (by omega)]
      · have HB1 : Hid (bo = false) := Lib.hid (by
          cases hbo : bo with
          | false => rfl
          | true =>
            refine absurd ⟨by omega, fun x hx => ?_⟩ (HBO.out.1 hbo)
            obtain ⟨j, hj, rfl⟩ := List.getElem_of_mem hx
            exact HO.out j _ (by omega) (List.getElem?_eq_getElem hj))
        go_wp2
        go_ret
        refine ⟨?_, HB.out⟩
        rw [HB1.out]
        show Ending.returned (.bool (decide (80 < (xs.length : Int)))) = _
        rw [decide_eq_false (by omega)]
end Go.Proofs.Ytfeogoihkpclcaa
