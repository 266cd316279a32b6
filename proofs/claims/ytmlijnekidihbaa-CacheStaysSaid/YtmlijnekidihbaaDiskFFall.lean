/-
  A file that falls; how many bytes all files have.
-/
import Derived.Test.YtmlijnekidihbaaDiskClone2
namespace Go.Proofs.Ytmlijnekidihbaa
open Go.RowKit

theorem rest_lt (n : Int) (m : Nat) : rest n m < m + 1 := by
  unfold rest
  exact Nat.mod_lt _ (by omega)

set_option maxRecDepth 100000 in
set_option maxHeartbeats 2000000 in
theorem ffall_any (w : World) (b off : Nat) (n : Int) (cur : Array Value) (t : Nat) (vs vn vl : Value) (safe : List UInt8) (l : List (Nat × List UInt8)) (hb : w.heap[b]? = some (.cells cur t (0, 0))) (h0 : cur[off]? = some vs) (h1 : cur[off + 1]? = some vn) (h2 : cur[off + 2]? = some vl)
    (hs : OwnB w 0 5 vs safe) (hl : w.ownsRow 0 96 2 vl l.length (putCells l)) (hbs : vs.ownBlock ≠ some b) (hbl : vl.ownBlock ≠ some b) (hsl : ∀ k, vs.ownBlock = some k → vl.ownBlock ≠ some k) (hok : WOk safe l)
    (hsz : safe.length + manyL l < 1000000000) (hln : l.length < 1000000000) (hn : (Lit.int .i64 n).wf = true) (hkl : (kept l (rest n (manyL l)) safe).length < 1000000000000) :
    Calls Try.prog 35 #[.pointer (some ⟨b, off, none⟩), .int .i64 n] w fun e w' => e = .returned (.tuple #[]) ∧ ∃ vs' vn', OwnB w' 0 5 vs' (kept l (rest n (manyL l)) safe) ∧ OwnB w' 0 5 vn' (kept l (rest n (manyL l)) safe) ∧
      w'.heap[b]? = some (.cells (((cur.setIfInBounds off vs').setIfInBounds (off + 2) (.slice none 0 0)).setIfInBounds (off + 1) vn') t (0, 0)) ∧
      Kept (fun k => k < w.heap.size ∧ k ≠ b ∧ vs.ownBlock ≠ some k) w w' ∧ (∀ k, vs'.ownBlock = some k → vs.ownBlock = some k ∨ (w.heap.size ≤ k ∧ k < w'.heap.size)) ∧ (∀ k, vn'.ownBlock = some k → w.heap.size ≤ k ∧ k < w'.heap.size ∧ vs'.ownBlock ≠ some k) := by
  have hm := Lib.hid hsz
  have c2 : w.cell? ⟨b, off + 2, none⟩ = some vl := (blk_cell hb).trans h2
  have hoff1 : off + 1 < cur.size := (Array.getElem?_eq_some_iff.1 h1).1
  have hoff : off < cur.size := (Array.getElem?_eq_some_iff.1 h0).1
  have hblt := blk_lt hb
  have hrl := rest_lt n (manyL l)
  have hml : manyL l < 1000000000 := by omega
  have P := Lib.hid (pending_any w b off vl l c2 hl (by show manyL l < _; omega) (by omega))
  have PP := Lib.hid (part_any · n (manyL l) hn hml)
  have HB := Lib.hid hb
  have H0 := Lib.hid h0
  have H1 := Lib.hid h1
  have H2 := Lib.hid h2
  have HS := Lib.hid hs
  have HL := Lib.hid hl
  have HSL := Lib.hid hsl
  have HOK := Lib.hid hok
  clear hb h0 h1 h2 hs hl hsl hok hsz c2
  have hP : ∀ w', Below w.heap.size w w' → Calls Try.prog 59 #[.pointer (some ⟨b, off, none⟩), .int .i64 (rest n (manyL l) : Int)] w' fun e w2 => e = .returned (.tuple #[]) ∧ ∃ vs', OwnB w2 0 5 vs' (kept l (rest n (manyL l)) safe) ∧
      w2.heap[b]? = some (.cells ((cur.setIfInBounds off vs').setIfInBounds (off + 2) (.slice none 0 0)) t (0, 0)) ∧
      Kept (fun k => k < w.heap.size ∧ k ≠ b ∧ vs.ownBlock ≠ some k) w w2 ∧ (∀ k, vs'.ownBlock = some k → vs.ownBlock = some k ∨ (w.heap.size ≤ k ∧ k < w2.heap.size)) := by
    intro w' hB
    have hk : Kept (fun k => k < w.heap.size) w w' := Kept.of hB fun _ h => h
    refine (fsettle_any w' b off (rest n (manyL l)) cur t vs vl safe l ((hB.block b hblt).trans HB.out) H0.out H2.out (own_kept HS.out hk fun k e => own_lt HS.out k e) (own_kept HL.out hk fun k e => own_lt HL.out k e) hbs hbl HSL.out HOK.out (by have := hm.out; omega) hln (by omega)).mono ?_
    rintro e w2 ⟨rfl, vs', r1, r2, r3, r4⟩
    refine ⟨rfl, vs', r1, r2, (Kept.of hB fun k hk => hk.1).trans (r3.mono fun k hk => ⟨by have := hB.size; omega, hk.2⟩), fun k hk => ?_⟩
    rcases r4 k hk with h | h
    · exact .inl h
    · exact .inr ⟨by have := hB.size; omega, h.2⟩
  have HP := Lib.hid hP
  clear hP
  go_enter Try.func35, Try.ntmps35
  go_wp2_with (first
    | (go_at_call 60; refine P.out.mono ?_; rintro e w1 ⟨rfl, hB1⟩)
    | (go_at_call 31; refine (PP.out _).mono ?_; rintro e w2 ⟨rfl, rfl⟩)
    | (go_at_call 59; refine (HP.out _ hB1).mono ?_; rintro e w3 ⟨rfl, vs', ho3, hb3, hk3, hl3⟩; have c3 : w3.cell? ⟨b, off, none⟩ = some vs' := (blk_cell hb3).trans (by rw [Array.getElem?_setIfInBounds_ne (by omega)]; simp [hoff]); have HB3 := Lib.hid hb3; have HO3 := Lib.hid ho3; have HK3 := Lib.hid hk3; have HL3 := Lib.hid hl3; clear hb3 ho3 hk3 hl3)
    | (go_at_call 64; refine (clone_bytes _ _ _ _ HO3.out.read (bv_oneCell _) hkl).mono ?_; rintro e w4 ⟨vn', rfl, ho4, hb4, hl4⟩; obtain ⟨a4, cap4, hv4, _, _⟩ := RdB.form (rd_of_own ho4); subst hv4; have hb5 := (hb4.block b (blk_lt HB3.out)).trans HB3.out; have c4 : w4.cell? ⟨b, off + 1, none⟩ = some vn := (blk_cell hb5).trans (by rw [Array.getElem?_setIfInBounds_ne (by omega), Array.getElem?_setIfInBounds_ne (by omega)]; exact H1.out); have f4 : w4.frozen? ⟨b, off + 1, none⟩ = false := blk_free hb5; have HB5 := Lib.hid hb5; have HO4 := Lib.hid ho4; have HL4 := Lib.hid hl4; clear hb5 ho4 hl4))
  go_end0
  have hs3 : b < w3.heap.size := blk_lt HB3.out
  have hvb : vs'.ownBlock ≠ some b := fun e => by
    rcases HL3.out b e with h | h
    · exact hbs h
    · omega
  have hsz4 := hb4.size
  have hsz3 := HK3.out.size
  refine ⟨rfl, vs', .slice a4 _ cap4, ?_, ?_, blk_set HB5.out _, ?_, ?_, ?_⟩
  · exact own_kept HO3.out (R := fun k => k < w3.heap.size ∧ k ≠ b) ((Kept.of hb4 fun k hk => hk.1).setCell (fun h => h.2 rfl) _) fun k hk => ⟨own_lt HO3.out k hk, fun e => hvb (by rw [← e]; exact hk)⟩
  · exact own_kept HO4.out (R := fun k => k ≠ b) ((Kept.refl _ w4).setCell (fun h => h rfl) _) fun k hk e => by have := (HL4.out k hk).1; omega
  · exact (HK3.out.trans (Kept.of hb4 fun k hk => by omega)).setCell (fun h => h.2.1 rfl) _
  · intro k hk
    rcases HL3.out k hk with h | h
    · exact .inl h
    · exact .inr (by simp [World.setCell]; omega)
  · intro k hk
    have h4 := HL4.out k hk
    refine ⟨by omega, by simp [World.setCell]; omega, fun e => ?_⟩
    have := own_lt HO3.out k e
    omega
end Go.Proofs.Ytmlijnekidihbaa
