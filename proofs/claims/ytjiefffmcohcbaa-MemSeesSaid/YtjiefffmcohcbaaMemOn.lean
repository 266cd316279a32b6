/-
  A list with towers as an object: what its calls tell, by the entries in order; the statements' example.
-/
import Derived.Test.YtjiefffmcohcbaaMemAdd
namespace Go.Proofs.Ytjiefffmcohcbaa
open Go.RowKit

/-- In world 'w' the object at 'p', with the blocks 'F', keeps the entries 'L', in order. -/
def Mo (F : Nat → Prop) (w : World) (p : Nat) (L : List Ent) : Prop := ∃ g m, MemAt g w p m ∧ m.Ok ∧ m.all = L ∧ g.F = F

theorem Mo.up {F : Nat → Prop} {w : World} {p : Nat} {L : List Ent} (h : Mo F w p L) : Up L ∧ (∀ e ∈ L, e.may = true) := by
  obtain ⟨g, m, hm, hok, rfl, _⟩ := h
  exact ⟨hok.up, hok.all_may⟩
theorem Mo.lt {F : Nat → Prop} {w : World} {p : Nat} {L : List Ent} (h : Mo F w p L) : ∀ k, F k → k < w.heap.size := by
  obtain ⟨g, m, hm, hok, rfl, rfl⟩ := h
  exact hm.olt
theorem Mo.kept {F R : Nat → Prop} {w w' : World} {p : Nat} {L : List Ent} (h : Mo F w p L) (hk : Kept R w w') (hR : ∀ k, F k → R k) : Mo F w' p L := by
  obtain ⟨g, m, hm, hok, rfl, rfl⟩ := h
  exact ⟨g, m, hm.kept hk hR, hok, rfl, rfl⟩
theorem Mo.below {F : Nat → Prop} {w w' : World} {p : Nat} {L : List Ent} (h : Mo F w p L) (hb : Below w.heap.size w w') : Mo F w' p L := h.kept (R := F) (Kept.of hb fun k hk => h.lt k hk) fun _ h => h
theorem Mo.drew {F : Nat → Prop} {w : World} {p : Nat} {L : List Ent} (h : Mo F w p L) : Mo F w.drew p L := h.below (Below.refl _ _).drew
theorem Mo.touch {F G : Nat → Prop} {w w' : World} {p : Nat} {L : List Ent} (h : Mo F w p L) (hk : Touch G w w') (hF : ∀ k, F k → ¬ G k) : Mo F w' p L := h.kept (R := F) (Kept.mono hk fun k hk' => ⟨h.lt k hk', hF k hk'⟩) fun _ h => h
theorem Ok_len {m : MS} (hok : m.Ok) : m.es.length = m.all.length := by unfold MS.all; rw [List.length_map, hok.len]

theorem mo_new (w : World) : Calls Try.prog 8 #[] w fun e w' => ∃ p F, e = .returned (.pointer (some ⟨p, 0, none⟩)) ∧ Mo F w' p [] ∧ (∀ k, F k → w.heap.size ≤ k) ∧ Below w.heap.size w w' := by
  refine (memNew_at w).mono ?_
  rintro e w' ⟨p, rfl, hp, hm, hb⟩
  refine ⟨p, (gm0 p).F, rfl, ⟨gm0 p, MS.new, hm, MS.new_ok, rfl, rfl⟩, fun k hk => ?_, hb⟩
  by_cases h : k = p
  · omega
  · exact absurd (show (if k = p then MRole.mem else MRole.out) = .out by rw [if_neg h]) hk

theorem mo_add {F : Nat → Prop} {w : World} {p : Nat} {L : List Ent} (h : Mo F w p L) (e : Ent) (he : e.fits) (hgt : Int) (hlen : L.length < 100000) :
    Calls Try.prog 9 #[.pointer (some ⟨p, 0, none⟩), entV e, .int .i64 hgt] w fun r w' => r = .returned (.bool (addB e L)) ∧ ∃ F', Mo F' w' p (addL e L) ∧ Touch F w w' ∧ Grows F F' w w' := by
  obtain ⟨g, m, hm, hok, rfl, rfl⟩ := h
  refine (memAdd_at hm hok e he hgt (by rw [Ok_len hok]; exact hlen)).mono ?_
  rintro r w' ⟨hr, g', m', hm', hok', hall, ht, hg⟩
  exact ⟨hr, g'.F, ⟨g', m', hm', hok', hall, rfl⟩, ht, hg⟩

theorem mo_get {F : Nat → Prop} {w : World} {p : Nat} {L : List Ent} (h : Mo F w p L) (u : ByteArray) (s : Int) (hu : u.size ≤ maxLen) (hs : (Lit.int .i64 s).wf = true) :
    Calls Try.prog 16 #[.pointer (some ⟨p, 0, none⟩), .string u, .int .i64 s] w fun e w' => e = .returned (ansN (newest L u s)) ∧ Below w.heap.size w w' := by
  obtain ⟨g, m, hm, hok, rfl, rfl⟩ := h
  exact memGet_at hm hok u s hu hs

theorem mo_all {F : Nat → Prop} {w : World} {p : Nat} {L : List Ent} (h : Mo F w p L) (hlen : L.length < 100000) :
    Calls Try.prog 15 #[.pointer (some ⟨p, 0, none⟩)] w fun e w' => ∃ v, e = .returned v ∧ OwnE w' w.heap.size v L ∧ Below w.heap.size w w' := by
  obtain ⟨g, m, hm, hok, rfl, rfl⟩ := h
  exact memAll_at hm hok (by rw [Ok_len hok]; omega)

theorem mo_len {F : Nat → Prop} {w : World} {p : Nat} {L : List Ent} (h : Mo F w p L) : Calls Try.prog 11 #[.pointer (some ⟨p, 0, none⟩)] w fun e w' => e = .returned (.int .i64 (L.length : Int)) ∧ w = w' := by
  obtain ⟨g, m, hm, hok, rfl, rfl⟩ := h
  rw [← Ok_len hok]
  exact memLen_at hm

theorem mo_size {F : Nat → Prop} {w : World} {p : Nat} {L : List Ent} (h : Mo F w p L) : Calls Try.prog 12 #[.pointer (some ⟨p, 0, none⟩)] w fun e w' => e = .returned (.int .i64 (sizeL L : Int)) ∧ w = w' := by
  obtain ⟨g, m, hm, hok, rfl, rfl⟩ := h
  rw [← hok.size]
  exact memSize_at hm

/-! ### The example. -/
def exE : Ent := ⟨⟨#[97]⟩, 3, 1, ⟨#[120]⟩⟩
theorem exE_fits : exE.fits := ⟨by unfold maxLen; decide, by unfold maxLen; decide, by decide, by decide⟩
theorem exE_add : addB exE [] = true := by decide
theorem exE_list : addL exE [] = [exE] := by unfold addL; rw [exE_add]; rfl
theorem exE_new : newest [exE] ⟨#[97]⟩ 3 = some exE := by unfold newest exE; simp

theorem ex_add {F : Nat → Prop} {w : World} {p : Nat} (h : Mo F w p []) : Calls Try.prog 9 #[.pointer (some ⟨p, 0, none⟩), .agg #[.string ⟨#[97]⟩, .int .i64 3, .int .i64 1, .string ⟨#[120]⟩], .int .i64 2] w fun r w' => r = .returned (.bool true) ∧ ∃ F', Mo F' w' p [exE] ∧ Touch F w w' ∧ Grows F F' w w' := by
  have := mo_add h exE exE_fits 2 (by decide)
  rw [exE_add, exE_list] at this
  exact this
theorem ex_get {F : Nat → Prop} {w : World} {p : Nat} (h : Mo F w p [exE]) : Calls Try.prog 16 #[.pointer (some ⟨p, 0, none⟩), .string ⟨#[97]⟩, .int .i64 3] w fun e w' => e = .returned (.tuple #[.agg #[.string ⟨#[97]⟩, .int .i64 3, .int .i64 1, .string ⟨#[120]⟩], .bool true]) ∧ Below w.heap.size w w' := by
  have := mo_get h ⟨#[97]⟩ 3 (by unfold maxLen; decide) (by decide)
  rw [exE_new] at this
  exact this
theorem ex_len {F : Nat → Prop} {w : World} {p : Nat} (h : Mo F w p [exE]) : Calls Try.prog 11 #[.pointer (some ⟨p, 0, none⟩)] w fun e w' => e = .returned (.int .i64 1) ∧ w = w' := mo_len h

set_option maxRecDepth 100000 in
set_option maxHeartbeats 2000000 in
theorem awake10_any (w : World) : Calls Try.prog 7 #[] w fun e w' => e = .returned (.bool true) ∧ Below w.heap.size w w' := by
  have HN := Lib.hid (mo_new w)
  go_enter Try.func7, Try.ntmps7
  go_wp2_with (first | (go_at_call 8; (with_reducible refine HN.out.mono ?_); rintro e w1 ⟨p, F, rfl, h1, h2, h3⟩; (have HM1 := Lib.hid h1); (have HF1 := Lib.hid h2); (have HB1 := Lib.hid h3); clear h1 h2 h3) | (go_at_call 9; (refine (ex_add HM1.out).mono ?_); rintro e w2 ⟨rfl, F2, h1, h2, h3⟩; (have HM2 := Lib.hid h1); (have HT2 := Lib.hid h2); (have HG2 := Lib.hid h3); clear h1 h2 h3) | (go_at_call 16; (refine (ex_get HM2.out).mono ?_); rintro e w3 ⟨rfl, h1⟩; (have HB3 := Lib.hid h1); (have HM3 := Lib.hid ((HM2.out.below h1).below ((Below.refl _ _).alloc (Nat.le_refl _) (.cells #[.string ⟨#[97]⟩, .int .i64 3, .int .i64 1, .string ⟨#[120]⟩] 34)))); clear h1) | (go_at_call 11; (refine (ex_len HM3.out).mono ?_); rintro e w4 ⟨rfl, rfl⟩))
  go_ret
  refine ⟨rfl, ?_⟩
  have b2 : Below w.heap.size w w2 := HB1.out.trans (HT2.out.below HF1.out HB1.out.size)
  exact (belowT b2 HB3.out).alloc (belowT b2 HB3.out).size _
end Go.Proofs.Ytjiefffmcohcbaa
