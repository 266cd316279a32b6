/-
  The list with towers: the newest entry of a user up to a number; every entry in order.
-/
import Derived.Test.YtjiefffmcohcbaaMemAhead
import Derived.Laws.ResultCell
namespace Go.Proofs.Ytjiefffmcohcbaa
open Go.RowKit

/-- An entry as one value. -/
abbrev entV (e : Ent) : Value := .agg #[.string e.u, .int .i64 e.s, .int .i64 e.k, .string e.v]
/-- An entry, or none, as two values. -/
def ansN : Option Ent → Value
  | none => .tuple #[.agg #[.string ⟨#[]⟩, .int .i64 0, .int .i64 0, .string ⟨#[]⟩], .bool false]
  | some e => .tuple #[entV e, .bool true]

theorem results_row_tmp {P : Program} {fn : Func} {p u : Tmp} {ty : TypeId} (h : fn.results = #[.cell p ty, .tmp u]) (tmps : Array Value) (w : World) (g : Nat) (t : TypeId) (cs : Array Value) (fr : Nat × Nat) (d : TypeDesc)
    (hp : tmps.getD p undef = .pointer (some ⟨g, 0, none⟩)) (hg : w.heap[g]? = some (.cells cs t fr))
    (hu : P.underlying ty = some d) (hd : (match d with | .struct _ | .array _ _ => true | _ => false) = true) (hi : (P.info? ty).map (·.size) = some cs.size) :
    (results fn tmps).run P w = .ok (.tuple #[.agg cs, tmps.getD u undef]) w := by
  rw [results_cell_tmp h, hp]
  simp [asAddr, run_loadVar_row w g t ty cs fr d hg hu hd hi]

theorem run_field_user (u : ByteArray) (s k : Int) (w : World) : (Instr.field 32 (.agg #[.string u, .int .i64 s, .int .i64 k]) 0).run Try.prog w = .ok (.string u) w := by kernel_rfl

theorem set4 {w w1 w2 w3 w4 : World} {q t : Nat} {c0 c1 c2 c3 v0 v1 v2 v3 : Value} (h : w.heap[q]? = some (.cells #[c0, c1, c2, c3] t (0, 0))) (h1 : w1 = w.setCell ⟨q, 0, none⟩ v0) (h2 : w2 = w1.setCell ⟨q, 1, none⟩ v1) (h3 : w3 = w2.setCell ⟨q, 2, none⟩ v2) (h4 : w4 = w3.setCell ⟨q, 3, none⟩ v3) :
    w4.heap[q]? = some (.cells #[v0, v1, v2, v3] t (0, 0)) ∧ ∀ B, B ≤ q → ∀ a : World, Below B a w → Below B a w4 := by
  have r1 : w1.heap[q]? = some (.cells #[v0, c1, c2, c3] t (0, 0)) := by rw [h1, blk_set h]; rfl
  have r2 : w2.heap[q]? = some (.cells #[v0, v1, c2, c3] t (0, 0)) := by rw [h2, blk_set r1]; rfl
  have r3 : w3.heap[q]? = some (.cells #[v0, v1, v2, c3] t (0, 0)) := by rw [h3, blk_set r2]; rfl
  have r4 : w4.heap[q]? = some (.cells #[v0, v1, v2, v3] t (0, 0)) := by rw [h4, blk_set r3]; rfl
  refine ⟨r4, fun B hB a hb => ?_⟩
  have k0 := Kept.of hb (R := fun k => k < B) fun _ h => h
  have k1 : Kept (fun k => k < B) a w1 := by rw [h1]; exact k0.setCell (by show ¬ q < B; omega) _
  have k2 : Kept (fun k => k < B) a w2 := by rw [h2]; exact k1.setCell (by show ¬ q < B; omega) _
  have k3 : Kept (fun k => k < B) a w3 := by rw [h3]; exact k2.setCell (by show ¬ q < B; omega) _
  have k4 : Kept (fun k => k < B) a w4 := by rw [h4]; exact k3.setCell (by show ¬ q < B; omega) _
  exact Kept.below k4 fun _ h => h

theorem ahead_all {g : GM} {w : World} {p : Nat} {m : MS} (hm : MemAt g w p m) (hok : m.Ok) (K : Ent) (hK : K.fits) (z : World) (hz : Below w.heap.size w z) :
    Calls Try.prog 21 #[.pointer (some ⟨p, 0, none⟩), .agg #[.string K.u, .int .i64 K.s, .int .i64 K.k]] z fun e w' => e = .returned (retPath m K) ∧ Below z.heap.size z w' := ahead_at (hm.below hz) hok K hK

theorem entry_all {g : GM} {w : World} {p : Nat} {m : MS} (hm : MemAt g w p m) {a : Nat} (h1 : 1 ≤ a) (h2 : a ≤ m.es.length) (e : Ent) (he : m.ent a = e) (z : World) (hz : Below w.heap.size w z) :
    Calls Try.prog 23 #[.pointer (some ⟨p, 0, none⟩), .int .i64 (a : Int)] z fun r w' => r = .returned (.agg #[.string e.u, .int .i64 e.s, .int .i64 e.k, .string e.v]) ∧ Below z.heap.size z w' := entry_at (hm.below hz) h1 h2 e he

theorem high_of {m : MS} (K : Ent) : (m.high K = [] ∧ highE K m.all = []) ∨ ∃ a r, m.high K = a :: r ∧ highE K m.all = m.ent a :: r.map m.ent := by
  rw [← MS.map_high]
  cases m.high K with
  | nil => exact .inl ⟨rfl, rfl⟩
  | cons a r => exact .inr ⟨a, r, rfl, rfl⟩

set_option maxRecDepth 100000 in
set_option maxHeartbeats 8000000 in
theorem memGet_at {g : GM} {w : World} {p : Nat} {m : MS} (hm : MemAt g w p m) (hok : m.Ok) (u : ByteArray) (s : Int) (hu : u.size ≤ maxLen) (hs : (Lit.int .i64 s).wf = true) :
    Calls Try.prog 16 #[.pointer (some ⟨p, 0, none⟩), .string u, .int .i64 s] w fun e w' => e = .returned (ansN (newest m.all u s)) ∧ Below w.heap.size w w' := by
  have hK : (Ent.mk u s 2 ⟨#[]⟩).fits := ⟨hu, by show (0 : Nat) ≤ _; omega, hs, (by decide : (Lit.int .i64 2).wf = true)⟩
  have hA := ahead_all hm hok ⟨u, s, 2, ⟨#[]⟩⟩ hK
  have hnw : newest m.all u s = _ := newest_high hok.up fun x hx => by have := (may_kind (hok.all_may x hx)).1; omega
  have hfst := hok.first ⟨u, s, 2, ⟨#[]⟩⟩
  have hlk := hok.linkIn ⟨u, s, 2, ⟨#[]⟩⟩ (h := 0) (i := (m.lowAt ⟨u, s, 2, ⟨#[]⟩⟩ 0).length) (by omega) (by rw [List.length_append]; omega)
  rw [← MS.path_nth] at hlk
  have hmem : ∀ a ∈ m.high ⟨u, s, 2, ⟨#[]⟩⟩, 1 ≤ a ∧ a ≤ m.es.length := fun a ha => hok.mem a (by rw [← MS.low_high m ⟨u, s, 2, ⟨#[]⟩⟩]; simp [ha])
  unfold retPath at hA
  rcases high_of (m := m) ⟨u, s, 2, ⟨#[]⟩⟩ with ⟨h1, h2⟩ | ⟨a, r, h1, h2⟩
  · rw [h2] at hnw
    rw [hnw]
    rw [h1] at hfst
    obtain ⟨lb, hlb⟩ := link_all hm hok hlk hfst
    clear hlk hfst hnw h1 h2 hmem hm hok hK hs hu
    generalize m.path ⟨u, s, 2, ⟨#[]⟩⟩ 0 = q0 at *
    generalize m.path ⟨u, s, 2, ⟨#[]⟩⟩ 1 = q1 at *
    generalize m.path ⟨u, s, 2, ⟨#[]⟩⟩ 2 = q2 at *
    generalize m.path ⟨u, s, 2, ⟨#[]⟩⟩ 3 = q3 at *
    generalize m.path ⟨u, s, 2, ⟨#[]⟩⟩ 4 = q4 at *
    generalize m.path ⟨u, s, 2, ⟨#[]⟩⟩ 5 = q5 at *
    generalize m.path ⟨u, s, 2, ⟨#[]⟩⟩ 6 = q6 at *
    generalize m.path ⟨u, s, 2, ⟨#[]⟩⟩ 7 = q7 at *
    generalize m.path ⟨u, s, 2, ⟨#[]⟩⟩ 8 = q8 at *
    generalize m.path ⟨u, s, 2, ⟨#[]⟩⟩ 9 = q9 at *
    generalize m.path ⟨u, s, 2, ⟨#[]⟩⟩ 10 = q10 at *
    generalize m.path ⟨u, s, 2, ⟨#[]⟩⟩ 11 = q11 at *
    have HL := Lib.hid hlb
    have HA := Lib.hid hA
    clear hlb hA
    go_enter Try.func16, Try.ntmps16
    go_wp2_with (first | (go_at_call 21; (refine (HA.out _ ((Below.refl _ _).alloc (Nat.le_refl _) _)).mono ?_); rintro e w1 ⟨rfl, hb1⟩; (have hbw1 := belowT ((Below.refl _ _).alloc (Nat.le_refl _) _) hb1); (have hS1 := (hb1.block w.heap.size (by simp)).trans (heap_alloc_new w (.cells #[.string ⟨#[]⟩, .int .i64 0, .int .i64 0, .string ⟨#[]⟩] 34))); (have HB1 := Lib.hid hbw1); (have HS1 := Lib.hid hS1); clear hbw1 hS1 hb1) | (go_at_call 22; (obtain ⟨wB, hwB⟩ : ∃ wB, wB = w1.alloc (.cells #[.int .i64 (q0 : Int), .int .i64 (q1 : Int), .int .i64 (q2 : Int), .int .i64 (q3 : Int), .int .i64 (q4 : Int), .int .i64 (q5 : Int), .int .i64 (q6 : Int), .int .i64 (q7 : Int), .int .i64 (q8 : Int), .int .i64 (q9 : Int), .int .i64 (q10 : Int), .int .i64 (q11 : Int)] 50) := ⟨_, rfl⟩); rw [← hwB]; (have hbB : Below w.heap.size w wB := by rw [hwB]; exact HB1.out.alloc HB1.out.size _); (have hsB : wB.heap[w.heap.size]? = some (.cells #[.string ⟨#[]⟩, .int .i64 0, .int .i64 0, .string ⟨#[]⟩] 34 (0, 0)) := by rw [hwB]; exact (Below.heap_alloc _ _ _ (blk_lt HS1.out)).trans HS1.out); (obtain ⟨hqB, hclB⟩ := HL.out wB hbB); (have HBB := Lib.hid hbB); (have HSB := Lib.hid hsB); (have zB0 := blk_cell (i := 0) hsB); (have fB0 := blk_free (i := 0) hsB); (have zB1 := blk_cell (i := 1) hsB); (have fB1 := blk_free (i := 1) hsB); (have zB2 := blk_cell (i := 2) hsB); (have fB2 := blk_free (i := 2) hsB); (have zB3 := blk_cell (i := 3) hsB); (have fB3 := blk_free (i := 3) hsB); (refine hclB.mono ?_); clear hclB hwB hbB hsB; rintro e w9 ⟨rfl, rfl⟩))
    refine bodyPost_ret (results_row_tmp rfl _ _ w.heap.size 34 #[.string ⟨#[]⟩, .int .i64 0, .int .i64 0, .string ⟨#[]⟩] (0, 0) _ rfl ?hgB Try.underlying34 rfl (by kernel_rfl)) rfl ?_
    case hgB => exact (set4 HSB.out rfl rfl rfl rfl).1
    exact ⟨rfl, (set4 HSB.out rfl rfl rfl rfl).2 _ (Nat.le_refl _) _ HBB.out⟩
  · rw [h2] at hnw
    rw [h1] at hfst
    obtain ⟨n1, n2⟩ := hmem a (by rw [h1]; simp)
    obtain ⟨lb, hlb⟩ := link_all hm hok hlk hfst
    have hE := entry_all hm n1 n2 _ rfl
    simp only [List.headD_cons] at hlb
    clear hlk hfst h1 h2 hmem hm hok hK hs hu
    generalize m.path ⟨u, s, 2, ⟨#[]⟩⟩ 0 = q0 at *
    generalize m.path ⟨u, s, 2, ⟨#[]⟩⟩ 1 = q1 at *
    generalize m.path ⟨u, s, 2, ⟨#[]⟩⟩ 2 = q2 at *
    generalize m.path ⟨u, s, 2, ⟨#[]⟩⟩ 3 = q3 at *
    generalize m.path ⟨u, s, 2, ⟨#[]⟩⟩ 4 = q4 at *
    generalize m.path ⟨u, s, 2, ⟨#[]⟩⟩ 5 = q5 at *
    generalize m.path ⟨u, s, 2, ⟨#[]⟩⟩ 6 = q6 at *
    generalize m.path ⟨u, s, 2, ⟨#[]⟩⟩ 7 = q7 at *
    generalize m.path ⟨u, s, 2, ⟨#[]⟩⟩ 8 = q8 at *
    generalize m.path ⟨u, s, 2, ⟨#[]⟩⟩ 9 = q9 at *
    generalize m.path ⟨u, s, 2, ⟨#[]⟩⟩ 10 = q10 at *
    generalize m.path ⟨u, s, 2, ⟨#[]⟩⟩ 11 = q11 at *
    generalize newest m.all u s = o at *
    generalize m.ent a = E at *
    obtain ⟨eu, es, ek, ev⟩ := E
    obtain ⟨a, rfl⟩ : ∃ b, a = b + 1 := ⟨a - 1, by omega⟩
    have hane : ((a + 1 : Nat) : Int) ≠ 0 := by omega
    have hfk := run_field_key eu es ek ev
    have hfu := run_field_user eu es ek
    have HL := Lib.hid hlb
    have HA := Lib.hid hA
    have HE := Lib.hid hE
    simp only at hnw
    clear hlb hA hE
    by_cases hxu : eu = u
    · rw [if_pos hxu] at hnw
      subst hxu
      rw [hnw]
      clear hnw n1 n2
      go_enter Try.func16, Try.ntmps16
      go_wp2_with (first | (go_at_call 21; (refine (HA.out _ ((Below.refl _ _).alloc (Nat.le_refl _) _)).mono ?_); rintro e w1 ⟨rfl, hb1⟩; (have hbw1 := belowT ((Below.refl _ _).alloc (Nat.le_refl _) _) hb1); (have hS1 := (hb1.block w.heap.size (by simp)).trans (heap_alloc_new w (.cells #[.string ⟨#[]⟩, .int .i64 0, .int .i64 0, .string ⟨#[]⟩] 34))); (have HB1 := Lib.hid hbw1); (have HS1 := Lib.hid hS1); clear hbw1 hS1 hb1) | (go_at_call 22; (obtain ⟨wB, hwB⟩ : ∃ wB, wB = w1.alloc (.cells #[.int .i64 (q0 : Int), .int .i64 (q1 : Int), .int .i64 (q2 : Int), .int .i64 (q3 : Int), .int .i64 (q4 : Int), .int .i64 (q5 : Int), .int .i64 (q6 : Int), .int .i64 (q7 : Int), .int .i64 (q8 : Int), .int .i64 (q9 : Int), .int .i64 (q10 : Int), .int .i64 (q11 : Int)] 50) := ⟨_, rfl⟩); rw [← hwB]; (have hbB : Below w.heap.size w wB := by rw [hwB]; exact HB1.out.alloc HB1.out.size _); (have hsB : wB.heap[w.heap.size]? = some (.cells #[.string ⟨#[]⟩, .int .i64 0, .int .i64 0, .string ⟨#[]⟩] 34 (0, 0)) := by rw [hwB]; exact (Below.heap_alloc _ _ _ (blk_lt HS1.out)).trans HS1.out); (obtain ⟨hqB, hclB⟩ := HL.out wB hbB); (have HBB := Lib.hid hbB); (have HSB := Lib.hid hsB); (have zB0 := blk_cell (i := 0) hsB); (have fB0 := blk_free (i := 0) hsB); (have zB1 := blk_cell (i := 1) hsB); (have fB1 := blk_free (i := 1) hsB); (have zB2 := blk_cell (i := 2) hsB); (have fB2 := blk_free (i := 2) hsB); (have zB3 := blk_cell (i := 3) hsB); (have fB3 := blk_free (i := 3) hsB); (refine hclB.mono ?_); clear hclB hwB hbB hsB; rintro e w9 ⟨rfl, rfl⟩) | (go_at_call 23; (refine (HE.out _ HBB.out).mono ?_); rintro e w2 ⟨rfl, hbC⟩; (have hbbC := belowT HBB.out hbC); (have hsC := (hbC.block w.heap.size (blk_lt HSB.out)).trans HSB.out); (have HBC := Lib.hid hbbC); (have HSC := Lib.hid hsC); (have zC0 := blk_cell (i := 0) hsC); (have fC0 := blk_free (i := 0) hsC); (have zC1 := blk_cell (i := 1) hsC); (have fC1 := blk_free (i := 1) hsC); (have zC2 := blk_cell (i := 2) hsC); (have fC2 := blk_free (i := 2) hsC); (have zC3 := blk_cell (i := 3) hsC); (have fC3 := blk_free (i := 3) hsC); clear hbbC hsC hbC) | (go_at_call 23; (refine (HE.out _ HBC.out).mono ?_); rintro e w3 ⟨rfl, hbD⟩; (have hbbD := belowT HBC.out hbD); (have hsD := (hbD.block w.heap.size (blk_lt HSC.out)).trans HSC.out); (have HBD := Lib.hid hbbD); (have HSD := Lib.hid hsD); (have zD0 := blk_cell (i := 0) hsD); (have fD0 := blk_free (i := 0) hsD); (have zD1 := blk_cell (i := 1) hsD); (have fD1 := blk_free (i := 1) hsD); (have zD2 := blk_cell (i := 2) hsD); (have fD2 := blk_free (i := 2) hsD); (have zD3 := blk_cell (i := 3) hsD); (have fD3 := blk_free (i := 3) hsD); clear hbbD hsD hbD))
      refine bodyPost_ret (results_row_tmp rfl _ _ w.heap.size 34 #[.string eu, .int .i64 es, .int .i64 ek, .string ev] (0, 0) _ rfl ?hgD Try.underlying34 rfl (by kernel_rfl)) rfl ?_
      case hgD => exact (set4 HSD.out rfl rfl rfl rfl).1
      exact ⟨rfl, (set4 HSD.out rfl rfl rfl rfl).2 _ (Nat.le_refl _) _ HBD.out⟩
    · rw [if_neg hxu] at hnw
      rw [hnw]
      have hne2 : (eu.toList == u.toList) = false := by
        rw [beq_eq_false_iff_ne, toList_data, toList_data]
        exact fun e => hxu (ByteArray.ext (Array.toList_inj.1 e))
      clear hnw n1 n2
      go_enter Try.func16, Try.ntmps16
      go_wp2_with (first | (go_at_call 21; (refine (HA.out _ ((Below.refl _ _).alloc (Nat.le_refl _) _)).mono ?_); rintro e w1 ⟨rfl, hb1⟩; (have hbw1 := belowT ((Below.refl _ _).alloc (Nat.le_refl _) _) hb1); (have hS1 := (hb1.block w.heap.size (by simp)).trans (heap_alloc_new w (.cells #[.string ⟨#[]⟩, .int .i64 0, .int .i64 0, .string ⟨#[]⟩] 34))); (have HB1 := Lib.hid hbw1); (have HS1 := Lib.hid hS1); clear hbw1 hS1 hb1) | (go_at_call 22; (obtain ⟨wB, hwB⟩ : ∃ wB, wB = w1.alloc (.cells #[.int .i64 (q0 : Int), .int .i64 (q1 : Int), .int .i64 (q2 : Int), .int .i64 (q3 : Int), .int .i64 (q4 : Int), .int .i64 (q5 : Int), .int .i64 (q6 : Int), .int .i64 (q7 : Int), .int .i64 (q8 : Int), .int .i64 (q9 : Int), .int .i64 (q10 : Int), .int .i64 (q11 : Int)] 50) := ⟨_, rfl⟩); rw [← hwB]; (have hbB : Below w.heap.size w wB := by rw [hwB]; exact HB1.out.alloc HB1.out.size _); (have hsB : wB.heap[w.heap.size]? = some (.cells #[.string ⟨#[]⟩, .int .i64 0, .int .i64 0, .string ⟨#[]⟩] 34 (0, 0)) := by rw [hwB]; exact (Below.heap_alloc _ _ _ (blk_lt HS1.out)).trans HS1.out); (obtain ⟨hqB, hclB⟩ := HL.out wB hbB); (have HBB := Lib.hid hbB); (have HSB := Lib.hid hsB); (have zB0 := blk_cell (i := 0) hsB); (have fB0 := blk_free (i := 0) hsB); (have zB1 := blk_cell (i := 1) hsB); (have fB1 := blk_free (i := 1) hsB); (have zB2 := blk_cell (i := 2) hsB); (have fB2 := blk_free (i := 2) hsB); (have zB3 := blk_cell (i := 3) hsB); (have fB3 := blk_free (i := 3) hsB); (refine hclB.mono ?_); clear hclB hwB hbB hsB; rintro e w9 ⟨rfl, rfl⟩) | (go_at_call 23; (refine (HE.out _ HBB.out).mono ?_); rintro e w2 ⟨rfl, hbC⟩; (have hbbC := belowT HBB.out hbC); (have hsC := (hbC.block w.heap.size (blk_lt HSB.out)).trans HSB.out); (have HBC := Lib.hid hbbC); (have HSC := Lib.hid hsC); (have zC0 := blk_cell (i := 0) hsC); (have fC0 := blk_free (i := 0) hsC); (have zC1 := blk_cell (i := 1) hsC); (have fC1 := blk_free (i := 1) hsC); (have zC2 := blk_cell (i := 2) hsC); (have fC2 := blk_free (i := 2) hsC); (have zC3 := blk_cell (i := 3) hsC); (have fC3 := blk_free (i := 3) hsC); clear hbbC hsC hbC))
      refine bodyPost_ret (results_row_tmp rfl _ _ w.heap.size 34 #[.string ⟨#[]⟩, .int .i64 0, .int .i64 0, .string ⟨#[]⟩] (0, 0) _ rfl ?hgE Try.underlying34 rfl (by kernel_rfl)) rfl ?_
      case hgE => exact (set4 HSC.out rfl rfl rfl rfl).1
      exact ⟨rfl, (set4 HSC.out rfl rfl rfl rfl).2 _ (Nat.le_refl _) _ HBC.out⟩
end Go.Proofs.Ytjiefffmcohcbaa
