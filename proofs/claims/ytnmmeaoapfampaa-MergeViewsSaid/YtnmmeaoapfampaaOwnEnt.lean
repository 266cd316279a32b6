/-
  Entries in memory of the call's own.
-/
import Derived.Test.YtnmmeaoapfampaaEnt
import Derived.Test.YtnmmeaoapfampaaCells
import Derived.Test.YtnmmeaoapfampaaKept
import Derived.Laws.ResultCell
import Derived.Lib.SmallJoins
namespace Go.Proofs.Ytnmmeaoapfampaa
open Go.RowKit

theorem info_ent : (Try.prog.info? 38).map (fun i => (i.zero, i.size, i.bytes)) = some (some (.agg #[.string ⟨#[]⟩, .int .i64 0, .int .i64 0, .string ⟨#[]⟩]), 4, 48) := by kernel_rfl
theorem run_field_key (u : ByteArray) (s k : Int) (v : ByteArray) (w : World) : (Instr.field 38 (.agg #[.string u, .int .i64 s, .int .i64 k, .string v]) 0).run Try.prog w = .ok (.agg #[.string u, .int .i64 s, .int .i64 k]) w := by kernel_rfl

/-- An entry as one value. -/
abbrev entV (e : Ent) : Value := .agg #[.string e.u, .int .i64 e.s, .int .i64 e.k, .string e.v]
/-- An entry, or none, as two values. -/
def ansN : Option Ent → Value
  | none => .tuple #[.agg #[.string ⟨#[]⟩, .int .i64 0, .int .i64 0, .string ⟨#[]⟩], .bool false]
  | some e => .tuple #[entV e, .bool true]

theorem results_row_tmp {P : Program} {fn : Func} {p u : Tmp} {ty : TypeId} (h : fn.results = #[.cell p ty, .tmp u]) (tmps : Array Value) (w : World) (g : Nat) (t : TypeId) (cs : Array Value) (fr : Nat × Nat) (d : TypeDesc)
    (hp : tmps.getD p undef = .pointer (some ⟨g, 0, none⟩)) (hg : w.heap[g]? = some (.cells cs t fr))
    (hu : P.underlying ty = some d) (hd : (match d with | .struct _ | .array _ _ => true | _ => false) = true) (hi : (P.info? ty).map (·.size) = some cs.size) :
    (results fn tmps).run P w = .ok (.tuple #[.agg cs, tmps.getD u undef]) w := by
  rw [results_cell_tmp h, hp]
  simp [asAddr, run_loadVar_row w g t ty cs fr d hg hu hd hi]

theorem run_field_user (u : ByteArray) (s k : Int) (w : World) : (Instr.field 36 (.agg #[.string u, .int .i64 s, .int .i64 k]) 0).run Try.prog w = .ok (.string u) w := by kernel_rfl

theorem set4 {w w1 w2 w3 w4 : World} {q t : Nat} {c0 c1 c2 c3 v0 v1 v2 v3 : Value} (h : w.heap[q]? = some (.cells #[c0, c1, c2, c3] t (0, 0))) (h1 : w1 = w.setCell ⟨q, 0, none⟩ v0) (h2 : w2 = w1.setCell ⟨q, 1, none⟩ v1) (h3 : w3 = w2.setCell ⟨q, 2, none⟩ v2) (h4 : w4 = w3.setCell ⟨q, 3, none⟩ v3) :
    w4.heap[q]? = some (.cells #[v0, v1, v2, v3] t (0, 0)) ∧ ∀ B, B ≤ q → ∀ a : World, Below B a w → Below B a w4 := by
  have r1 : w1.heap[q]? = some (.cells #[v0, c1, c2, c3] t (0, 0)) := by rw [h1, blk_set h]; rfl
  have r2 : w2.heap[q]? = some (.cells #[v0, v1, c2, c3] t (0, 0)) := by rw [h2, blk_set r1]; rfl
  have r3 : w3.heap[q]? = some (.cells #[v0, v1, v2, c3] t (0, 0)) := by rw [h3, blk_set r2]; rfl
  have r4 : w4.heap[q]? = some (.cells #[v0, v1, v2, v3] t (0, 0)) := by rw [h4, blk_set r3]; rfl
  refine ⟨r4, fun B hB a hb => ?_⟩
  have k0 := Kept.of hb (R := fun k => k < B) fun _ h => h
  have k1 : Kept (fun k => k < B) a w1 := by rw [h1]; exact k0.setCell (by show ¬ q < B; omega) _
  have k2 : Kept (fun k => k < B) a w2 := by rw [h2]; exact k1.setCell (by show ¬ q < B; omega) _
  have k3 : Kept (fun k => k < B) a w3 := by rw [h3]; exact k2.setCell (by show ¬ q < B; omega) _
  have k4 : Kept (fun k => k < B) a w4 := by rw [h4]; exact k3.setCell (by show ¬ q < B; omega) _
  exact Kept.below k4 fun _ h => h

/-- The slice 'v' of entries lies in memory of the call's own, from block 'B' on. -/
def OwnE (w : World) (B : Nat) (v : Value) (es : List Ent) : Prop := w.ownsRow B 38 4 v es.length (es.flatMap Ent.cells)

theorem OwnE.read {w : World} {B : Nat} {v : Value} {es : List Ent} (h : OwnE w B v es) (hf : ∀ e ∈ es, e.fits) : RdE w v es := ⟨rd_of_own h, hf⟩
theorem OwnE.below {w w' : World} {B : Nat} {v : Value} {es : List Ent} (h : OwnE w B v es) (hb : Below w.heap.size w w') : OwnE w' B v es := by
  refine own_base (B := 0) (own_kept (own_base h (B' := 0) fun _ _ => Nat.zero_le _) (R := fun k => k < w.heap.size) (Kept.of hb fun _ h => h) fun k hk => (World.ownsRow.lt h k hk).2) fun k hk => (World.ownsRow.lt h k hk).1
theorem OwnE.form {w : World} {B : Nat} {v : Value} {es : List Ent} (h : OwnE w B v es) : ∃ a cap, v = .slice a es.length cap ∧ es.length ≤ cap ∧ cap ≤ maxLen := by
  obtain ⟨a, cap, rfl, h1, h2, _⟩ := rd_of_own h
  exact ⟨a, cap, rfl, h1, h2⟩
theorem entFlat_one (l : List Ent) : ∀ u ∈ l.flatMap Ent.cells, u.oneCell' = true := by
  intro u hu
  obtain ⟨o, _, ho⟩ := List.mem_flatMap.1 hu
  simp only [Ent.cells, List.mem_cons, List.not_mem_nil, or_false] at ho
  rcases ho with rfl | rfl | rfl | rfl <;> rfl
/-- One entry, laid by itself. -/
theorem one_entry (w : World) (e : Ent) : Rd (w.alloc (.cells #[.string e.u, .int .i64 e.s, .int .i64 e.k, .string e.v] 38)) 4 (.slice (some ⟨w.heap.size, 0, none⟩) 1 1) 1 ([e].flatMap Ent.cells) := by
  refine ⟨_, 1, rfl, Nat.le_refl _, by unfold maxLen; omega, rfl, .inr ⟨w.heap.size, 0, rfl, by simp, fun j u hj => ?_⟩⟩
  rw [Nat.zero_add, cell_of_row _ w.heap.size j _ 38 (0, 0) (heap_alloc_new w _)]
  simpa [Ent.cells] using hj
theorem own_monoE {w : World} {B B' : Nat} {v : Value} {es : List Ent} (h : OwnE w B v es) (hB : B' ≤ B) : OwnE w B' v es := own_base h fun k hk => Nat.le_trans hB (World.ownsRow.lt h k hk).1

theorem own_ent {w : World} {va : Option Addr} {vc k : Nat} {L : List Ent} (h : OwnE w 0 (.slice va L.length vc) L) (hk : k < L.length) : ∃ g, va = some ⟨g, 0, none⟩ ∧ g < w.heap.size ∧
    w.cell? ⟨g, k * 4, none⟩ = some (.string (L.getD k Ent.none_).u) ∧ w.cell? ⟨g, k * 4 + 1, none⟩ = some (.int .i64 (L.getD k Ent.none_).s) ∧ w.cell? ⟨g, k * 4 + 2, none⟩ = some (.int .i64 (L.getD k Ent.none_).k) ∧ w.cell? ⟨g, k * 4 + 3, none⟩ = some (.string (L.getD k Ent.none_).v) := by
  have h0 := h
  rcases h.2 with ⟨_, h3⟩ | ⟨g, cap', cur, hv, h3, hg, _⟩
  · omega
  · cases hv
    have hl := fun j => World.ownsRow.cellAt h0 j
    refine ⟨g, rfl, (Array.getElem?_eq_some_iff.1 hg).1, ?_, ?_, ?_, ?_⟩
    · rw [hl _ (by omega)]; exact flat_at L k 0 hk (by omega)
    · rw [hl _ (by omega)]; exact flat_at L k 1 hk (by omega)
    · rw [hl _ (by omega)]; exact flat_at L k 2 hk (by omega)
    · rw [hl _ (by omega)]; exact flat_at L k 3 hk (by omega)
theorem RdE.one {w : World} {v : Value} {l : List Ent} (h : RdE w v l) : ∃ a c, v = .slice a l.length c ∧ ∀ i, i < l.length → ∃ b off, a = some ⟨b, off, none⟩ ∧ b < w.heap.size ∧ w.cell? ⟨b, off + i * 4, none⟩ = some (.string (l.getD i Ent.none_).u) ∧ w.cell? ⟨b, off + i * 4 + 1, none⟩ = some (.int .i64 (l.getD i Ent.none_).s) ∧
      w.cell? ⟨b, off + i * 4 + 2, none⟩ = some (.int .i64 (l.getD i Ent.none_).k) ∧ w.cell? ⟨b, off + i * 4 + 3, none⟩ = some (.string (l.getD i Ent.none_).v) ∧ (l.getD i Ent.none_).fits := by
  obtain ⟨a, c, rfl, _, _⟩ := h.form
  refine ⟨a, c, rfl, fun i hi => ?_⟩
  obtain ⟨b, off, cap, hv, _, _, hb, hc⟩ := h.at_ (by intro e; rw [e] at hi; simp at hi)
  cases hv
  obtain ⟨c0, c1, c2, c3⟩ := hc i hi
  exact ⟨b, off, rfl, hb, c0, c1, c2, c3, fits_at h.2 i hi⟩
theorem below_draw10 {w u : World} (h : Below w.drew.heap.size w.drew u) : Below w.heap.size w u := (Below.refl _ _).drew.trans h
theorem ansN_form (o : Option Ent) : ∃ (a : ByteArray) (b c : Int) (d : ByteArray) (f : Bool), ansN o = .tuple #[.agg #[.string a, .int .i64 b, .int .i64 c, .string d], .bool f] := by
  cases o with
  | none => exact ⟨_, _, _, _, _, rfl⟩
  | some e => exact ⟨_, _, _, _, _, rfl⟩
/-- The first ones. -/
theorem entFront {w : World} {a : Option Addr} {cap : Nat} {l : List Ent} (h : Rd w 4 (.slice a l.length cap) l.length (l.flatMap Ent.cells)) (q : Nat) (hq : q ≤ l.length) : Rd w 4 (.slice a q cap) q ((l.take q).flatMap Ent.cells) := by
  obtain ⟨a', cap', hv, h1, h2, h0, h3⟩ := h
  cases hv
  have hlen : (l.take q).length = q := by rw [List.length_take]; omega
  refine ⟨_, _, rfl, by omega, by omega, by rw [flat_length, hlen], ?_⟩
  rcases h3 with ⟨h3, h4⟩ | ⟨b, off, hb, h4, h5⟩
  · left; exact ⟨by omega, h4⟩
  · refine .inr ⟨b, off, hb, h4, fun j u hj => h5 j u ?_⟩
    have e : l.flatMap Ent.cells = (l.take q).flatMap Ent.cells ++ (l.drop q).flatMap Ent.cells := by rw [← List.flatMap_append, List.take_append_drop]
    rw [e, List.getElem?_append_left]
    · exact hj
    · exact (List.getElem?_eq_some_iff.1 hj).1

/-- The rest. -/
theorem entRest {w : World} {b off cap : Nat} {l : List Ent} (h : Rd w 4 (.slice (some ⟨b, off, none⟩) l.length cap) l.length (l.flatMap Ent.cells)) (q : Nat) (hq : q ≤ l.length) : Rd w 4 (.slice (some ⟨b, off + q * 4, none⟩) (l.length - q) (cap - q)) (l.length - q) ((l.drop q).flatMap Ent.cells) := by
  obtain ⟨a', cap', hv, h1, h2, h0, h3⟩ := h
  cases hv
  have hlen : (l.drop q).length = l.length - q := by rw [List.length_drop]
  refine ⟨_, _, rfl, by omega, by omega, by rw [flat_length, hlen], ?_⟩
  by_cases h0 : l.length - q = 0
  · left; exact ⟨h0, fun h => by cases h⟩
  · rcases h3 with ⟨h3, _⟩ | ⟨b', off', hb, h4, h5⟩
    · omega
    · cases hb
      refine .inr ⟨b, off + q * 4, rfl, h4, fun j u hj => ?_⟩
      rw [Nat.add_assoc]
      refine h5 (q * 4 + j) u ?_
      have e : l.flatMap Ent.cells = (l.take q).flatMap Ent.cells ++ (l.drop q).flatMap Ent.cells := by rw [← List.flatMap_append, List.take_append_drop]
      rw [e, List.getElem?_append_right (by rw [flat_length, List.length_take]; omega), flat_length, List.length_take]
      rw [← hj]
      congr 1
      omega

end Go.Proofs.Ytnmmeaoapfampaa
