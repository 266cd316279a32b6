import Derived.Test.YtfeogoihkpclcaaMg12
import Derived.Test.YtfeogoihkpclcaaMg07
import Derived.Deep.Cut

/-
  Copy.
-/
namespace Go.Proofs.Ytfeogoihkpclcaa
open Go.RowKit

theorem made3 (n : Nat) : madeCells #[.slice none 0 0, .slice none 0 0, .slice none 0 0] (n * 3) = (List.replicate (n * 3) (Value.slice none 0 0)).toArray := by
  apply Array.toList_inj.1
  refine List.ext_getElem (by simp [size_madeCells]) fun i h1 h2 => ?_
  simp only [List.getElem_replicate]
  unfold madeCells
  simp
  have : i % 3 = 0 ∨ i % 3 = 1 ∨ i % 3 = 2 := by omega
  rcases this with h | h | h <;> simp [h]

theorem run_make_files (n : Nat) (hn : n < 1000000) (w : World) : (Instr.makeSlice 47 (.int .i64 (n : Int)) (.int .i64 (n : Int))).run Try.prog w = .ok (.slice (some ⟨w.heap.size, 0, none⟩) n n) (w.alloc (.cells (List.replicate (n * 3) (Value.slice none 0 0)).toArray 59)) := by
  obtain ⟨i0, hi, hz0, hz1, hz2⟩ := info_parts info_file
  have h := run_make (P := Try.prog) w 47 59 i0 _ Try.underlying47 hi hz0 .i64 .i64 (n : Int) (n : Int) (by omega) (Int.le_refl _) (by rw [hz2]; omega) (by omega)
  rw [hz1, Int.toNat_natCast] at h
  rw [← made3]
  exact h

/-- So many files are copied: where they lie ('c': the new disk; the row is behind it), and whose block is whose. -/
structure CopyAt (gl : List (GF × PF)) (c : Nat) (wA wr : World) (i : Nat) (l : List (GF × PF)) (ro : Nat → Role) : Prop where
  len : l.length = i
  fls : l.map (·.2) = (gl.map (·.2)).take i
  fa : ∀ x ∈ l, FileAt ro wr x.1 x.2
  tok : l.map (·.1.tok) = List.range i
  top : ∀ k t, ro k = .fs t ∨ ro k = .fn t ∨ ro k = .fl t → t < i
  only : ∀ k, ro k ≠ .out → (wA.heap.size ≤ k ∧ k < wr.heap.size) ∧ ∃ t, ro k = .fs t ∨ ro k = .fn t ∨ ro k = .fl t
  row : wr.heap[c + 1]? = some (.cells (gfCells l ++ List.replicate ((gl.length - i) * 3) (Value.slice none 0 0)).toArray 59 (0, 0))
  kept : Kept (fun k => k < wA.heap.size ∧ k ≠ c + 1) wA wr

theorem gf_len : ∀ l : List (GF × PF), (gfCells l).length = l.length * 3
  | [] => rfl
  | x :: r => by
    show (_ :: _ :: _ :: gfCells r).length = _
    simp only [List.length_cons, gf_len r]
    omega

theorem row_free {w : World} {r t n i : Nat} {cs : List Value} (h : w.heap[r]? = some (.cells (cs ++ List.replicate ((n - i) * 3) (Value.slice none 0 0)).toArray t (0, 0))) (hc : cs.length = i * 3) (hi : i < n) (j : Nat) (hj : j < 3) : w.cell? ⟨r, i * 3 + j, none⟩ = some (.slice none 0 0) := by
  rw [blk_cell h, List.getElem?_toArray, List.getElem?_append_right (by omega), List.getElem?_replicate, if_pos (by omega)]

theorem copy_start {gl : List (GF × PF)} {c : Nat} {wA : World} (_ : wA.heap.size = c + 2) (hr : wA.heap[c + 1]? = some (.cells (List.replicate (gl.length * 3) (Value.slice none 0 0)).toArray 59 (0, 0))) : CopyAt gl c wA wA 0 [] fun _ => .out :=
  ⟨rfl, rfl, fun x hx => (nomatch hx), rfl, (fun k t h => by rcases h with h | h | h <;> cases h), fun k h => absurd rfl h, (by simpa [gfCells] using hr), Kept.refl _ _⟩

theorem CopyAt.step {gl : List (GF × PF)} {c i : Nat} {wA wr wc w' : World} {l : List (GF × PF)} {ro : Nat → Role} (h : CopyAt gl c wA wr i l ro) (hA : c + 2 ≤ wA.heap.size) {g0 : GF} {f : PF} (hx : gl[i]? = some (g0, f)) (hB : Below wr.heap.size wr wc) (v1 v2 v3 : Value)
    (o1 : OwnB wc 0 5 v1 f.safe) (o2 : OwnB wc 0 5 v2 f.now) (o3 : wc.ownsRow 0 63 2 v3 f.loose.length (putCells f.loose))
    (L1 : ∀ k, v1.ownBlock = some k → wr.heap.size ≤ k ∧ k < wc.heap.size) (L2 : ∀ k, v2.ownBlock = some k → wr.heap.size ≤ k ∧ k < wc.heap.size) (L3 : ∀ k, v3.ownBlock = some k → wr.heap.size ≤ k ∧ k < wc.heap.size)
    (D12 : ∀ k, v1.ownBlock = some k → v2.ownBlock ≠ some k) (D13 : ∀ k, v1.ownBlock = some k → v3.ownBlock ≠ some k) (D23 : ∀ k, v2.ownBlock = some k → v3.ownBlock ≠ some k)
    (hw : Kept (fun k => k ≠ c + 1) wc w') (hs : w'.heap.size = wc.heap.size) (hr : w'.heap[c + 1]? = some (.cells (gfCells (l ++ [(⟨i, v1, v2, v3⟩, f)]) ++ List.replicate ((gl.length - (i + 1)) * 3) (Value.slice none 0 0)).toArray 59 (0, 0))) :
    CopyAt gl c wA w' (i + 1) (l ++ [(⟨i, v1, v2, v3⟩, f)]) (claim (claim (claim ro v1.ownBlock (.fs i)) v2.ownBlock (.fn i)) v3.ownBlock (.fl i)) := by
  have hlr := blk_lt h.row
  have hAr := h.kept.size
  have hold : ∀ k, ro k ≠ .out → claim (claim (claim ro v1.ownBlock (.fs i)) v2.ownBlock (.fn i)) v3.ownBlock (.fl i) k = ro k := fun k hk => by
    have := (h.only k hk).1.2
    rw [claim_old fun e => by have := (L3 k e).1; omega, claim_old fun e => by have := (L2 k e).1; omega, claim_old fun e => by have := (L1 k e).1; omega]
  have hkc : Kept (fun k => k < wr.heap.size ∧ k ≠ c + 1) wr w' := (Kept.of hB fun k hk => hk.1).trans (Kept.mono hw fun k hk => hk.2)
  have hne : ∀ k, wr.heap.size ≤ k → k ≠ c + 1 := fun k hk => by omega
  have r3 : ∀ k, v3.ownBlock = some k → claim (claim (claim ro v1.ownBlock (.fs i)) v2.ownBlock (.fn i)) v3.ownBlock (.fl i) k = .fl i := fun k e => claim_at e
  have r2 : ∀ k, v2.ownBlock = some k → claim (claim (claim ro v1.ownBlock (.fs i)) v2.ownBlock (.fn i)) v3.ownBlock (.fl i) k = .fn i := fun k e => by rw [claim_old (D23 k e), claim_at e]
  have r1 : ∀ k, v1.ownBlock = some k → claim (claim (claim ro v1.ownBlock (.fs i)) v2.ownBlock (.fn i)) v3.ownBlock (.fl i) k = .fs i := fun k e => by rw [claim_old (D13 k e), claim_old (D12 k e), claim_at e]
  have cases4 : ∀ k, v1.ownBlock = some k ∨ v2.ownBlock = some k ∨ v3.ownBlock = some k ∨ claim (claim (claim ro v1.ownBlock (.fs i)) v2.ownBlock (.fn i)) v3.ownBlock (.fl i) k = ro k := fun k => by
    by_cases e1 : v1.ownBlock = some k
    · exact .inl e1
    by_cases e2 : v2.ownBlock = some k
    · exact .inr (.inl e2)
    by_cases e3 : v3.ownBlock = some k
    · exact .inr (.inr (.inl e3))
    · exact .inr (.inr (.inr (by rw [claim_old e3, claim_old e2, claim_old e1])))
  refine ⟨by simp [h.len], ?_, ?_, ?_, ?_, ?_, hr, h.kept.trans (Kept.mono hkc fun k hk => ⟨by omega, hk.2⟩)⟩
  · rw [List.map_append, h.fls, List.take_add_one, List.getElem?_map, hx]
    rfl
  · intro x hxm
    rcases List.mem_append.1 hxm with hxm | hxm
    · have hf := h.fa x hxm
      have hn : ∀ k, ro k = .fs x.1.tok ∨ ro k = .fn x.1.tok ∨ ro k = .fl x.1.tok → ro k ≠ .out := fun k e => by rcases e with e | e | e <;> rw [e] <;> simp
      exact (hf.kept hkc fun k e => ⟨(h.only k (hn k e)).1.2, by have := (h.only k (hn k e)).1.1; omega⟩).role fun k e => hold k (hn k e)
    · have : x = (⟨i, v1, v2, v3⟩, f) := by simpa using hxm
      subst this
      exact ⟨own_kept o1 hw fun k e => hne k (L1 k e).1, own_kept o2 hw fun k e => hne k (L2 k e).1, own_kept o3 hw fun k e => hne k (L3 k e).1, r1, r2, r3⟩
  · rw [List.map_append, h.tok, List.range_succ]
    rfl
  · intro k t ht
    rcases cases4 k with e | e | e | e
    · rw [r1 k e] at ht
      rcases ht with ht | ht | ht <;> cases ht
      exact Nat.lt_succ_self _
    · rw [r2 k e] at ht
      rcases ht with ht | ht | ht <;> cases ht
      exact Nat.lt_succ_self _
    · rw [r3 k e] at ht
      rcases ht with ht | ht | ht <;> cases ht
      exact Nat.lt_succ_self _
    · rw [e] at ht
      exact Nat.lt_succ_of_lt (h.top k t ht)
  · intro k hk
    rcases cases4 k with e | e | e | e
    · exact ⟨⟨by have := (L1 k e).1; omega, by rw [hs]; exact (L1 k e).2⟩, i, .inl (r1 k e)⟩
    · exact ⟨⟨by have := (L2 k e).1; omega, by rw [hs]; exact (L2 k e).2⟩, i, .inr (.inl (r2 k e))⟩
    · exact ⟨⟨by have := (L3 k e).1; omega, by rw [hs]; exact (L3 k e).2⟩, i, .inr (.inr (r3 k e))⟩
    · rw [e] at hk ⊢
      obtain ⟨⟨q1, q2⟩, q3⟩ := h.only k hk
      exact ⟨⟨q1, by rw [hs]; have := hB.size; omega⟩, q3⟩

theorem row_set {l : List (GF × PF)} {i n t r : Nat} {w : World} (h : w.heap[r]? = some (.cells (gfCells l ++ List.replicate ((n - i) * 3) (Value.slice none 0 0)).toArray t (0, 0))) (hl : (gfCells l).length = i * 3) (hi : i < n) (a b c : Value) (f : PF) :
    (((w.setCell ⟨r, i * 3, none⟩ a).setCell ⟨r, i * 3 + 1, none⟩ b).setCell ⟨r, i * 3 + 2, none⟩ c).heap[r]? = some (.cells (gfCells (l ++ [(⟨i, a, b, c⟩, f)]) ++ List.replicate ((n - (i + 1)) * 3) (Value.slice none 0 0)).toArray t (0, 0)) := by
  have h1 := blk_set (i := i * 3) h a
  have h2 := blk_set (i := i * 3 + 1) h1 b
  have h3 := blk_set (i := i * 3 + 2) h2 c
  rw [h3]
  have e : (n - i) * 3 = (n - (i + 1)) * 3 + 3 := by omega
  have e2 : gfCells (l ++ [(⟨i, a, b, c⟩, f)]) = gfCells l ++ [a, b, c] := by unfold gfCells; rw [List.flatMap_append]; rfl
  congr 2
  apply Array.toList_inj.1
  simp only [Array.toList_setIfInBounds]
  rw [e, e2]
  have e3 : List.replicate ((n - (i + 1)) * 3 + 3) (Value.slice none 0 0) = [Value.slice none 0 0, .slice none 0 0, .slice none 0 0] ++ List.replicate ((n - (i + 1)) * 3) (Value.slice none 0 0) := by
    rw [Nat.add_comm, ← List.replicate_append_replicate]
    rfl
  rw [e3]
  rw [← hl]
  simp

/-- The copy's parts together. -/
theorem copy_final {gl : List (GF × PF)} {c : Nat} {wA wr wf : World} {l : List (GF × PF)} {ro : Nat → Role} {d : PD} {nv sv lv : Value} (h : CopyAt gl c wA wr gl.length l ro) (hA : wA.heap.size = c + 2) (hgl : gl.length < 10000) (hfl : d.files = gl.map (·.2)) (hk : Kept (fun k => k < wr.heap.size ∧ k ≠ c) wr wf)
    (hc : wf.heap[c]? = some (.cells #[.int .i64 d.room, .int .i64 d.crash, .bool d.done, .int .i64 (d.calls : Int), .bool d.down, .slice (some ⟨c + 1, 0, none⟩) gl.length gl.length, nv, sv, lv] 51 (0, 0)))
    (hn : Nm wf nv d.names) (hs : Nm wf sv d.safe) (hl : wf.ownsRow 0 67 4 lv d.loose.length (chCells d.loose))
    (Ln : ∀ k, mapBlock nv = some k → wr.heap.size ≤ k) (Ls : ∀ k, mapBlock sv = some k → wr.heap.size ≤ k) (Ll : ∀ k, lv.ownBlock = some k → wr.heap.size ≤ k)
    (Dns : ∀ k, mapBlock nv = some k → mapBlock sv ≠ some k) (Dnl : ∀ k, mapBlock nv = some k → lv.ownBlock ≠ some k) (Dsl : ∀ k, mapBlock sv = some k → lv.ownBlock ≠ some k) : ∃ g', DiskAt g' wf c d ∧ ∀ k, g'.F k → c ≤ k := by
  have hlr := blk_lt h.row
  have hAr := h.kept.size
  obtain ⟨o, ho⟩ : ∃ o : Nat → Role, o = fun k => if k = c then .disk else if k = c + 1 then .files else if mapBlock nv = some k then .names else if mapBlock sv = some k then .safe else if lv.ownBlock = some k then .loose else ro k := ⟨_, rfl⟩
  have oc : o c = .disk := by rw [ho]; simp
  have or_ : o (c + 1) = .files := by rw [ho]; simp
  have on_ : ∀ k, mapBlock nv = some k → o k = .names := fun k e => by
    have := Ln k e
    rw [ho]
    dsimp only
    rw [if_neg (by omega), if_neg (by omega), if_pos e]
  have os_ : ∀ k, mapBlock sv = some k → o k = .safe := fun k e => by
    have := Ls k e
    rw [ho]
    dsimp only
    rw [if_neg (by omega), if_neg (by omega), if_neg (fun e' => Dns k e' e), if_pos e]
  have ol_ : ∀ k, lv.ownBlock = some k → o k = .loose := fun k e => by
    have := Ll k e
    rw [ho]
    dsimp only
    rw [if_neg (by omega), if_neg (by omega), if_neg (fun e' => Dnl k e' e), if_neg (fun e' => Dsl k e' e), if_pos e]
  have oo_ : ∀ k, o k = .disk ∨ o k = .files ∨ o k = .names ∨ o k = .safe ∨ o k = .loose ∨ o k = ro k := fun k => by
    rw [ho]
    dsimp only
    split
    · exact .inl rfl
    split
    · exact .inr (.inl rfl)
    split
    · exact .inr (.inr (.inl rfl))
    split
    · exact .inr (.inr (.inr (.inl rfl)))
    split
    · exact .inr (.inr (.inr (.inr (.inl rfl))))
    · exact .inr (.inr (.inr (.inr (.inr rfl))))
  have ro_ : ∀ k, ro k ≠ .out → o k = ro k := fun k e => by
    have h1 := (h.only k e).1
    rw [ho]
    dsimp only
    rw [if_neg (by omega), if_neg (by omega), if_neg (fun e' => by have := Ln k e'; omega), if_neg (fun e' => by have := Ls k e'; omega), if_neg (fun e' => by have := Ll k e'; omega)]
  have hn3 : ∀ {x : GF × PF} {k : Nat}, ro k = .fs x.1.tok ∨ ro k = .fn x.1.tok ∨ ro k = .fl x.1.tok → ro k ≠ .out := fun {x k} e => by rcases e with e | e | e <;> rw [e] <;> simp
  have hrow : wf.heap[c + 1]? = some (.cells (gfCells l).toArray 59 (0, 0)) := by
    rw [hk.block (c + 1) ⟨hlr, by omega⟩, h.row]
    simp
  have hF : ∀ k, o k ≠ .out → c ≤ k ∧ k < wf.heap.size := fun k hk' => by
    have hcf := blk_lt hc
    have hrf := blk_lt hrow
    rw [ho] at hk'
    dsimp only at hk'
    split at hk'
    · omega
    split at hk'
    · omega
    split at hk'
    · rename_i e; have := Ln k e; have := hn.lt k e; omega
    split at hk'
    · rename_i e; have := Ls k e; have := hs.lt k e; omega
    split at hk'
    · rename_i e; have := Ll k e; have := (World.ownsRow.lt hl k e).2; omega
    · have := (h.only k hk').1; have := hk.size; omega
  refine ⟨⟨o, l, gl.length, .slice (some ⟨c + 1, 0, none⟩) gl.length gl.length, nv, sv, lv⟩, ⟨hc, oc, ?_, fun x hx => ?_, ?_, fun x hx => ?_, fun k t ht => ?_, ?_, fun k e => ?_, hn, on_, hs, os_, hl, ol_, fun k e => (hF k e).2⟩, fun k e => (hF k e).1⟩
  · show d.files = l.map (·.2)
    rw [hfl, h.fls, List.take_of_length_le (by simp)]
  · exact ((h.fa x hx).kept hk fun k e => ⟨(h.only k (hn3 e)).1.2, by have := (h.only k (hn3 e)).1.1; omega⟩).role fun k e => ro_ k (hn3 e)
  · show (l.map (·.1.tok)).Nodup
    rw [h.tok]
    exact List.nodup_range
  · have hm : x.1.tok ∈ l.map (·.1.tok) := List.mem_map.2 ⟨x, hx, rfl⟩
    rw [h.tok] at hm
    exact List.mem_range.1 hm
  · refine h.top k t ?_
    dsimp only at ht
    rcases oo_ k with e | e | e | e | e | e <;> rw [e] at ht
    · rcases ht with ht | ht | ht <;> cases ht
    · rcases ht with ht | ht | ht <;> cases ht
    · rcases ht with ht | ht | ht <;> cases ht
    · rcases ht with ht | ht | ht <;> cases ht
    · rcases ht with ht | ht | ht <;> cases ht
    · exact ht
  · have hlen : l.length = gl.length := h.len
    refine ⟨by rw [gf_len], .inr ⟨c + 1, gl.length, (gfCells l).toArray, by dsimp only; rw [hlen], Nat.zero_le _, hrow, by dsimp only; omega, by unfold maxLen; omega, by simp [gf_len, hlen], ?_⟩⟩
    exact List.take_of_length_le (by simp [gf_len])
  · cases e
    exact or_

set_option maxRecDepth 100000 in
set_option maxHeartbeats 4000000 in
set_option linter.unusedSimpArgs false in
theorem copy_at {g : Gh} {w : World} {p : Nat} {d : PD} (h : DiskAt g w p d) (hsm : Small d) :
    Calls Try.prog 8 #[.pointer (some ⟨p, 0, none⟩)] w fun e w' => ∃ p' g', e = .returned (.pointer (some ⟨p', 0, none⟩)) ∧ DiskAt g' w' p' d ∧ (∀ k, g'.F k → w.heap.size ≤ k) ∧ Below w.heap.size w w' := by
  have hq : ∀ (w : World) (a : Addr), (binOp .eql 28 (.pointer (some a)) (.pointer none)).run Try.prog w = .ok (.bool false) w := fun w a => by kernel_rfl
  have hb := h.blk
  obtain ⟨o, gl, top, fv, nv, sv, lv⟩ := g
  have hfr := h.fr
  have hlr := h.lr
  have hnr := h.nr
  have hsr := h.sr
  dsimp only at hfr hlr hnr hsr
  obtain ⟨fa, fc, rfl, _, _⟩ := rd_of_own hfr
  obtain ⟨la, lc, rfl, _, _⟩ := rd_of_own hlr
  obtain ⟨nb, rfl⟩ : ∃ b, nv = .map b := by rcases hnr with ⟨rfl, _⟩ | ⟨b, rfl, _⟩ <;> exact ⟨_, rfl⟩
  obtain ⟨sb, rfl⟩ : ∃ b, sv = .map b := by rcases hsr with ⟨rfl, _⟩ | ⟨b, rfl, _⟩ <;> exact ⟨_, rfl⟩
  unfold dCells at hb
  dsimp only at hb
  have HFR := Lib.hid hfr
  have HLR := Lib.hid hlr
  have HNR := Lib.hid hnr
  have HSR := Lib.hid hsr
  clear hfr hlr hnr hsr
  have e0 : w.cell? ⟨p, 0, none⟩ = some (.int .i64 d.room) := blk_cell hb
  have e1 : w.cell? ⟨p, 1, none⟩ = some (.int .i64 d.crash) := blk_cell hb
  have e2 : w.cell? ⟨p, 2, none⟩ = some (.bool d.done) := blk_cell hb
  have e3 : w.cell? ⟨p, 3, none⟩ = some (.int .i64 (d.calls : Int)) := blk_cell hb
  have e4 : w.cell? ⟨p, 4, none⟩ = some (.bool d.down) := blk_cell hb
  have e5 : w.cell? ⟨p, 5, none⟩ = some (.slice fa gl.length fc) := blk_cell hb
  have e6 : w.cell? ⟨p, 6, none⟩ = some (.map nb) := blk_cell hb
  have e7 : w.cell? ⟨p, 7, none⟩ = some (.map sb) := blk_cell hb
  have e8 : w.cell? ⟨p, 8, none⟩ = some (.slice la d.loose.length lc) := blk_cell hb
  have H := Lib.hid h
  have HSM := Lib.hid hsm
  clear h hsm
  go_enter Try.func8, Try.ntmps8
  have hpl := blk_lt hb
  have HP0 := Lib.hid hb
  have hgl : gl.length < 10000 := by
    have h2 := HSM.out.files
    rw [show d.files = gl.map (·.2) from H.out.fl, List.length_map] at h2
    exact h2
  have hmk := run_make_files gl.length (by omega)
  go_upto_region 4 with (fail)
  obtain ⟨w1, hw1⟩ : ∃ w1, w1 = w.alloc (.cells #[.int .i64 d.room, .int .i64 d.crash, .bool d.done, .int .i64 (d.calls : Int), .bool d.down, .slice fa gl.length fc, .map nb, .map sb, .slice la d.loose.length lc] 51) := ⟨_, rfl⟩
  rw [← hw1]
  have hb1 : Below w.heap.size w w1 := by rw [hw1]; exact (Below.refl _ _).alloc (Nat.le_refl _) _
  have hs1 : w1.heap.size = w.heap.size + 1 := by rw [hw1]; simp
  have hc1 : w1.heap[w.heap.size]? = some (.cells #[.int .i64 d.room, .int .i64 d.crash, .bool d.done, .int .i64 (d.calls : Int), .bool d.down, .slice fa gl.length fc, .map nb, .map sb, .slice la d.loose.length lc] 51 (0, 0)) := by rw [hw1]; exact heap_alloc_new w _
  have hp1 := (hb1.block p hpl).trans hb
  have c5 : w1.cell? ⟨p, 5, none⟩ = some (.slice fa gl.length fc) := blk_cell hp1
  have hq1 : ∀ o, (w1.alloc o).cell? ⟨p, 5, none⟩ = some (.slice fa gl.length fc) := fun o => (World.cell?_of_block (a := ⟨p, 5, none⟩) (Below.heap_alloc _ _ _ (by simp; omega))).trans c5
  have d5 : ∀ o, (w1.alloc o).cell? ⟨w.heap.size, 5, none⟩ = some (.slice fa gl.length fc) := fun o => (World.cell?_of_block (a := ⟨w.heap.size, 5, none⟩) (Below.heap_alloc _ _ _ (by simp; omega))).trans (blk_cell hc1)
  have f5 : ∀ o, (w1.alloc o).frozen? ⟨w.heap.size, 5, none⟩ = false := fun o => (World.frozen?_of_block (a := ⟨w.heap.size, 5, none⟩) (Below.heap_alloc _ _ _ (by simp; omega))).trans (blk_free hc1)
  have HW1 := Lib.hid hw1
  have HB1 := Lib.hid hb1
  have HS1 := Lib.hid hs1
  have HC1 := Lib.hid hc1
  have HP1 := Lib.hid hp1
  have HPL := Lib.hid hpl
  clear hw1 hb1 hs1 hc1 hp1 hpl e0 e1 e2 e3 e4 e5 e6 e7 e8 hb
  go_upto_region 5 with (fail)
  obtain ⟨wA, hwA⟩ : ∃ wA, wA = (w1.alloc (Obj.cells (Array.replicate (gl.length * 3) (Value.slice none 0 0)) 59)).setCell ⟨w.heap.size, 5, none⟩ (.slice (some ⟨w1.heap.size, 0, none⟩) gl.length gl.length) := ⟨_, rfl⟩
  rw [← hwA]
  rw [HS1.out] at hwA ⊢
  have hkA : Kept (fun k => k < w1.heap.size ∧ k ≠ w.heap.size) w1 wA := by rw [hwA]; exact (Kept.of ((Below.refl _ _).alloc (Nat.le_refl _) _) fun k hk => hk.1).setCell (fun h => h.2 rfl) _
  have hsA : wA.heap.size = w.heap.size + 2 := by rw [hwA]; simp [World.setCell, HS1.out]
  have hcA : wA.heap[w.heap.size]? = some (.cells #[.int .i64 d.room, .int .i64 d.crash, .bool d.done, .int .i64 (d.calls : Int), .bool d.down, .slice (some ⟨w.heap.size + 1, 0, none⟩) gl.length gl.length, .map nb, .map sb, .slice la d.loose.length lc] 51 (0, 0)) := by
    rw [hwA]
    exact (blk_set (i := 5) ((Below.heap_alloc _ _ _ (by have := HS1.out; omega)).trans HC1.out) _).trans (by simp)
  have hrA : wA.heap[w.heap.size + 1]? = some (.cells (List.replicate (gl.length * 3) (Value.slice none 0 0)).toArray 59 (0, 0)) := by
    rw [hwA]
    have h1 := heap_alloc_new w1 (Obj.cells (Array.replicate (gl.length * 3) (Value.slice none 0 0)) 59)
    rw [HS1.out] at h1
    have h2 := (Kept.refl (fun k => k ≠ w.heap.size) (w1.alloc (Obj.cells (Array.replicate (gl.length * 3) (Value.slice none 0 0)) 59))).setCell (p := ⟨w.heap.size, 5, none⟩) (fun h => h rfl) (.slice (some ⟨w.heap.size + 1, 0, none⟩) gl.length gl.length)
    rw [h2.block (w.heap.size + 1) (by omega), h1]
    simp
  have hbA : Below w.heap.size w wA := by
    refine HB1.out.trans (Kept.below hkA fun k hk => ⟨by have := HS1.out; omega, by omega⟩)
  have hpA := (hbA.block p HPL.out).trans HP0.out
  have cA5 : wA.cell? ⟨p, 5, none⟩ = some (.slice fa gl.length fc) := blk_cell hpA
  have HSA := Lib.hid hsA
  have HCA := Lib.hid hcA
  have HRA := Lib.hid hrA
  have HBA := Lib.hid hbA
  have HPA := Lib.hid hpA
  clear hwA hkA hsA hcA hrA hbA hpA c5 hq1 d5 f5 HW1 HB1 HS1 HC1 HP1 hmk
  go_wp2
  go_loopw [23] (fun iv wr => ∃ (i : Nat) (l : List (GF × PF)) (ro : Nat → Role), i ≤ gl.length ∧ iv = .int .i64 (i : Int) ∧ CopyAt gl w.heap.size wA wr i l ro) (fun iv _ => gl.length - (intOf iv).toNat)
  case atStart => exact ⟨0, [], fun _ => .out, Nat.zero_le _, rfl, copy_start HSA.out HRA.out⟩
  case round =>
    obtain ⟨i, l, ro, hi, rfl, hrel⟩ := hrel
    have HREL := Lib.hid hrel
    clear hrel
    have HBW := Lib.hid (show Below w.heap.size w wr from HBA.out.trans (Kept.below HREL.out.kept fun k hk => ⟨by have := HSA.out; omega, by omega⟩))
    have HCW := Lib.hid (show wr.heap[w.heap.size]? = _ from (HREL.out.kept.block w.heap.size ⟨by have := HSA.out; omega, by omega⟩).trans HCA.out)
    have HPW := Lib.hid ((HBW.out.block p HPL.out).trans HP0.out)
    by_cases hlt : i < gl.length
    · obtain ⟨x, hx⟩ : ∃ x, gl[i]? = some x := ⟨_, List.getElem?_eq_getElem hlt⟩
      have hfa := H.out.fa x (List.mem_of_getElem? hx)
      dsimp only at hfa
      obtain ⟨fb, fcap, cur, hv', _, hcap, hfb, hcur, _⟩ := own_form HFR.out (by omega)
      cases hv'
      have hat := fun j hj => flat_at (fun x : GF × PF => [x.1.vs, x.1.vn, x.1.vl]) 3 (fun _ => rfl) gl i j hj
      rw [hx] at hat
      obtain ⟨⟨tok, xs, xn, xl⟩, ⟨fs, fn, fl⟩⟩ := x
      have hd0 := hcur _ _ (hat 0 (by omega))
      have hd1 := hcur _ _ (hat 1 (by omega))
      have hd2 := hcur _ _ (hat 2 (by omega))
      have q1 := rd_of_own hfa.vs
      have q2 := rd_of_own hfa.vn
      have q3 := rd_of_own hfa.vl
      dsimp only at q1 q2 q3 hd0 hd1 hd2
      have HQ1 := Lib.hid (q1.below HBW.out (Nat.le_refl _))
      have HQ2 := Lib.hid (q2.below HBW.out (Nat.le_refl _))
      have HQ3 := Lib.hid (q3.below HBW.out (Nat.le_refl _))
      obtain ⟨sa, sc, rfl, _, _⟩ := q1
      obtain ⟨na, nc, rfl, _, _⟩ := q2
      obtain ⟨ba, bc, rfl, _, _⟩ := q3
      have hfw := (HBW.out.block fb (blk_lt hfb)).trans hfb
      have k0 : wr.cell? ⟨fb, i * 3, none⟩ = some (.slice sa fs.length sc) := (HBW.out.cell (p := ⟨fb, i * 3, none⟩) (blk_lt hfb)).trans (by simpa using hd0)
      have k1 : wr.cell? ⟨fb, i * 3 + 1, none⟩ = some (.slice na fn.length nc) := (HBW.out.cell (p := ⟨fb, i * 3 + 1, none⟩) (blk_lt hfb)).trans (by simpa using hd1)
      have k2 : wr.cell? ⟨fb, i * 3 + 2, none⟩ = some (.slice ba fl.length bc) := (HBW.out.cell (p := ⟨fb, i * 3 + 2, none⟩) (blk_lt hfb)).trans (by simpa using hd2)
      have hfd := HSM.out.fl ⟨fs, fn, fl⟩ (by rw [show d.files = gl.map (·.2) from H.out.fl]; exact List.mem_map.2 ⟨_, List.mem_of_getElem? hx, rfl⟩)
      dsimp only at hfd
      have HFD := Lib.hid hfd
      have HX := Lib.hid hx
      have hic : i < fc := by omega
      clear hat hcur hfb hd0 hd1 hd2 hfw hfa hfd hx
      go_wp2
      obtain ⟨w8, hw8⟩ : ∃ w8, w8 = (wr.alloc (.cells #[.slice sa fs.length sc, .slice na fn.length nc, .slice ba fl.length bc] 59)).drew := ⟨_, rfl⟩
      have hB8 : Below wr.heap.size wr w8 := by rw [hw8]; exact ((Below.refl _ _).alloc (Nat.le_refl _) _).drew
      have hs8 : w8.heap.size = wr.heap.size + 1 := by rw [hw8]; simp [World.drew]
      have hx8 : w8.heap[wr.heap.size]? = some (.cells #[.slice sa fs.length sc, .slice na fn.length nc, .slice ba fl.length bc] 59 (0, 0)) := by rw [hw8]; exact heap_alloc_new wr _
      have HW8 := Lib.hid hw8
      have HB8 := Lib.hid hB8
      have HS8 := Lib.hid hs8
      have HX8 := Lib.hid hx8
      have hcl := blk_lt HCW.out
      have HC8 := Lib.hid ((hB8.block w.heap.size hcl).trans HCW.out)
      have HR8 := Lib.hid ((hB8.block (w.heap.size + 1) (blk_lt HREL.out.row)).trans HREL.out.row)
      have HLT := Lib.hid (show w.heap.size < w8.heap.size ∧ wr.heap.size < w8.heap.size ∧ w.heap.size + 1 < w8.heap.size from ⟨by omega, by omega, by have := blk_lt HREL.out.row; omega⟩)
      have hgl3 := gf_len l
      have HRL := Lib.hid (show (gfCells l).length = i * 3 by rw [gf_len, HREL.out.len])
      clear hw8 hB8 hs8 hx8 hcl hgl3 k0 k1 k2
      refine wp_region_two (fun wz => Below w8.heap.size w8 wz) (fun _ => True) [(0, 0), (0, 1), (0, 2), (0, 3), (0, 4), (0, 6), (0, 7), (0, 9), (0, 10), (2, 5), (2, 8), (2, 11), (0, 12), (0, 13), (3, 14)] [14] (by kernel_rfl) (by kernel_rfl) (by kernel_rfl) (by kernel_rfl) (by kernel_rfl) (by rw [← HW8.out]; exact Below.refl _ _) trivial ?_
      simp only [planT, List.drop_succ_cons, List.drop_zero]
      rw [← HW8.out]
      refine PlanT.take0 (v := ?vC0) (by kernel_rfl) ?yC0 ?rC0
      case yC0 => (intro wz hz; have c5 : wz.cell? ⟨w.heap.size, 5, none⟩ = some (.slice (some ⟨w.heap.size + 1, 0, none⟩) gl.length gl.length) := (hz.cell (p := ⟨w.heap.size, 5, none⟩) HLT.out.1).trans (blk_cell HC8.out); have b0 : wz.cell? ⟨wr.heap.size, 0, none⟩ = some (.slice sa fs.length sc) := (hz.cell (p := ⟨wr.heap.size, 0, none⟩) HLT.out.2.1).trans (blk_cell HX8.out); have b1 : wz.cell? ⟨wr.heap.size, 1, none⟩ = some (.slice na fn.length nc) := (hz.cell (p := ⟨wr.heap.size, 1, none⟩) HLT.out.2.1).trans (blk_cell HX8.out); have b2 : wz.cell? ⟨wr.heap.size, 2, none⟩ = some (.slice ba fl.length bc) := (hz.cell (p := ⟨wr.heap.size, 2, none⟩) HLT.out.2.1).trans (blk_cell HX8.out); clear hz; go_simp; try with_reducible rfl)
      (try simp only [Act.put, List.setIfInBounds_toArray, List.set_cons_zero, List.set_cons_succ])
      refine PlanT.take0 (v := ?vC1) (by kernel_rfl) ?yC1 ?rC1
      case yC1 => (intro wz hz; have c5 : wz.cell? ⟨w.heap.size, 5, none⟩ = some (.slice (some ⟨w.heap.size + 1, 0, none⟩) gl.length gl.length) := (hz.cell (p := ⟨w.heap.size, 5, none⟩) HLT.out.1).trans (blk_cell HC8.out); have b0 : wz.cell? ⟨wr.heap.size, 0, none⟩ = some (.slice sa fs.length sc) := (hz.cell (p := ⟨wr.heap.size, 0, none⟩) HLT.out.2.1).trans (blk_cell HX8.out); have b1 : wz.cell? ⟨wr.heap.size, 1, none⟩ = some (.slice na fn.length nc) := (hz.cell (p := ⟨wr.heap.size, 1, none⟩) HLT.out.2.1).trans (blk_cell HX8.out); have b2 : wz.cell? ⟨wr.heap.size, 2, none⟩ = some (.slice ba fl.length bc) := (hz.cell (p := ⟨wr.heap.size, 2, none⟩) HLT.out.2.1).trans (blk_cell HX8.out); clear hz; go_simp; try with_reducible rfl)
      (try simp only [Act.put, List.setIfInBounds_toArray, List.set_cons_zero, List.set_cons_succ])
      refine PlanT.take0 (v := ?vC2) (by kernel_rfl) ?yC2 ?rC2
      case yC2 => (intro wz hz; have c5 : wz.cell? ⟨w.heap.size, 5, none⟩ = some (.slice (some ⟨w.heap.size + 1, 0, none⟩) gl.length gl.length) := (hz.cell (p := ⟨w.heap.size, 5, none⟩) HLT.out.1).trans (blk_cell HC8.out); have b0 : wz.cell? ⟨wr.heap.size, 0, none⟩ = some (.slice sa fs.length sc) := (hz.cell (p := ⟨wr.heap.size, 0, none⟩) HLT.out.2.1).trans (blk_cell HX8.out); have b1 : wz.cell? ⟨wr.heap.size, 1, none⟩ = some (.slice na fn.length nc) := (hz.cell (p := ⟨wr.heap.size, 1, none⟩) HLT.out.2.1).trans (blk_cell HX8.out); have b2 : wz.cell? ⟨wr.heap.size, 2, none⟩ = some (.slice ba fl.length bc) := (hz.cell (p := ⟨wr.heap.size, 2, none⟩) HLT.out.2.1).trans (blk_cell HX8.out); clear hz; go_simp; try with_reducible rfl)
      (try simp only [Act.put, List.setIfInBounds_toArray, List.set_cons_zero, List.set_cons_succ])
      refine PlanT.take0 (v := ?vC3) (by kernel_rfl) ?yC3 ?rC3
      case yC3 => (intro wz hz; have c5 : wz.cell? ⟨w.heap.size, 5, none⟩ = some (.slice (some ⟨w.heap.size + 1, 0, none⟩) gl.length gl.length) := (hz.cell (p := ⟨w.heap.size, 5, none⟩) HLT.out.1).trans (blk_cell HC8.out); have b0 : wz.cell? ⟨wr.heap.size, 0, none⟩ = some (.slice sa fs.length sc) := (hz.cell (p := ⟨wr.heap.size, 0, none⟩) HLT.out.2.1).trans (blk_cell HX8.out); have b1 : wz.cell? ⟨wr.heap.size, 1, none⟩ = some (.slice na fn.length nc) := (hz.cell (p := ⟨wr.heap.size, 1, none⟩) HLT.out.2.1).trans (blk_cell HX8.out); have b2 : wz.cell? ⟨wr.heap.size, 2, none⟩ = some (.slice ba fl.length bc) := (hz.cell (p := ⟨wr.heap.size, 2, none⟩) HLT.out.2.1).trans (blk_cell HX8.out); clear hz; go_simp; try with_reducible rfl)
      (try simp only [Act.put, List.setIfInBounds_toArray, List.set_cons_zero, List.set_cons_succ])
      refine PlanT.take0 (v := ?vC4) (by kernel_rfl) ?yC4 ?rC4
      case yC4 => (intro wz hz; have c5 : wz.cell? ⟨w.heap.size, 5, none⟩ = some (.slice (some ⟨w.heap.size + 1, 0, none⟩) gl.length gl.length) := (hz.cell (p := ⟨w.heap.size, 5, none⟩) HLT.out.1).trans (blk_cell HC8.out); have b0 : wz.cell? ⟨wr.heap.size, 0, none⟩ = some (.slice sa fs.length sc) := (hz.cell (p := ⟨wr.heap.size, 0, none⟩) HLT.out.2.1).trans (blk_cell HX8.out); have b1 : wz.cell? ⟨wr.heap.size, 1, none⟩ = some (.slice na fn.length nc) := (hz.cell (p := ⟨wr.heap.size, 1, none⟩) HLT.out.2.1).trans (blk_cell HX8.out); have b2 : wz.cell? ⟨wr.heap.size, 2, none⟩ = some (.slice ba fl.length bc) := (hz.cell (p := ⟨wr.heap.size, 2, none⟩) HLT.out.2.1).trans (blk_cell HX8.out); clear hz; go_simp; try with_reducible rfl)
      (try simp only [Act.put, List.setIfInBounds_toArray, List.set_cons_zero, List.set_cons_succ])
      refine PlanT.take0 (v := ?vC6) (by kernel_rfl) ?yC6 ?rC6
      case yC6 => (intro wz hz; have c5 : wz.cell? ⟨w.heap.size, 5, none⟩ = some (.slice (some ⟨w.heap.size + 1, 0, none⟩) gl.length gl.length) := (hz.cell (p := ⟨w.heap.size, 5, none⟩) HLT.out.1).trans (blk_cell HC8.out); have b0 : wz.cell? ⟨wr.heap.size, 0, none⟩ = some (.slice sa fs.length sc) := (hz.cell (p := ⟨wr.heap.size, 0, none⟩) HLT.out.2.1).trans (blk_cell HX8.out); have b1 : wz.cell? ⟨wr.heap.size, 1, none⟩ = some (.slice na fn.length nc) := (hz.cell (p := ⟨wr.heap.size, 1, none⟩) HLT.out.2.1).trans (blk_cell HX8.out); have b2 : wz.cell? ⟨wr.heap.size, 2, none⟩ = some (.slice ba fl.length bc) := (hz.cell (p := ⟨wr.heap.size, 2, none⟩) HLT.out.2.1).trans (blk_cell HX8.out); clear hz; go_simp; try with_reducible rfl)
      (try simp only [Act.put, List.setIfInBounds_toArray, List.set_cons_zero, List.set_cons_succ])
      refine PlanT.take0 (v := ?vC7) (by kernel_rfl) ?yC7 ?rC7
      case yC7 => (intro wz hz; have c5 : wz.cell? ⟨w.heap.size, 5, none⟩ = some (.slice (some ⟨w.heap.size + 1, 0, none⟩) gl.length gl.length) := (hz.cell (p := ⟨w.heap.size, 5, none⟩) HLT.out.1).trans (blk_cell HC8.out); have b0 : wz.cell? ⟨wr.heap.size, 0, none⟩ = some (.slice sa fs.length sc) := (hz.cell (p := ⟨wr.heap.size, 0, none⟩) HLT.out.2.1).trans (blk_cell HX8.out); have b1 : wz.cell? ⟨wr.heap.size, 1, none⟩ = some (.slice na fn.length nc) := (hz.cell (p := ⟨wr.heap.size, 1, none⟩) HLT.out.2.1).trans (blk_cell HX8.out); have b2 : wz.cell? ⟨wr.heap.size, 2, none⟩ = some (.slice ba fl.length bc) := (hz.cell (p := ⟨wr.heap.size, 2, none⟩) HLT.out.2.1).trans (blk_cell HX8.out); clear hz; go_simp; try with_reducible rfl)
      (try simp only [Act.put, List.setIfInBounds_toArray, List.set_cons_zero, List.set_cons_succ])
      refine PlanT.take0 (v := ?vC9) (by kernel_rfl) ?yC9 ?rC9
      case yC9 => (intro wz hz; have c5 : wz.cell? ⟨w.heap.size, 5, none⟩ = some (.slice (some ⟨w.heap.size + 1, 0, none⟩) gl.length gl.length) := (hz.cell (p := ⟨w.heap.size, 5, none⟩) HLT.out.1).trans (blk_cell HC8.out); have b0 : wz.cell? ⟨wr.heap.size, 0, none⟩ = some (.slice sa fs.length sc) := (hz.cell (p := ⟨wr.heap.size, 0, none⟩) HLT.out.2.1).trans (blk_cell HX8.out); have b1 : wz.cell? ⟨wr.heap.size, 1, none⟩ = some (.slice na fn.length nc) := (hz.cell (p := ⟨wr.heap.size, 1, none⟩) HLT.out.2.1).trans (blk_cell HX8.out); have b2 : wz.cell? ⟨wr.heap.size, 2, none⟩ = some (.slice ba fl.length bc) := (hz.cell (p := ⟨wr.heap.size, 2, none⟩) HLT.out.2.1).trans (blk_cell HX8.out); clear hz; go_simp; try with_reducible rfl)
      (try simp only [Act.put, List.setIfInBounds_toArray, List.set_cons_zero, List.set_cons_succ])
      refine PlanT.take0 (v := ?vC10) (by kernel_rfl) ?yC10 ?rC10
      case yC10 => (intro wz hz; have c5 : wz.cell? ⟨w.heap.size, 5, none⟩ = some (.slice (some ⟨w.heap.size + 1, 0, none⟩) gl.length gl.length) := (hz.cell (p := ⟨w.heap.size, 5, none⟩) HLT.out.1).trans (blk_cell HC8.out); have b0 : wz.cell? ⟨wr.heap.size, 0, none⟩ = some (.slice sa fs.length sc) := (hz.cell (p := ⟨wr.heap.size, 0, none⟩) HLT.out.2.1).trans (blk_cell HX8.out); have b1 : wz.cell? ⟨wr.heap.size, 1, none⟩ = some (.slice na fn.length nc) := (hz.cell (p := ⟨wr.heap.size, 1, none⟩) HLT.out.2.1).trans (blk_cell HX8.out); have b2 : wz.cell? ⟨wr.heap.size, 2, none⟩ = some (.slice ba fl.length bc) := (hz.cell (p := ⟨wr.heap.size, 2, none⟩) HLT.out.2.1).trans (blk_cell HX8.out); clear hz; go_simp; try with_reducible rfl)
      (try simp only [Act.put, List.setIfInBounds_toArray, List.set_cons_zero, List.set_cons_succ])
      refine PlanT.exec2 (fun K hK => ⟨by kernel_rfl, ?_⟩)
      go_simp
      refine (clone_bytes _ _ _ _ (HQ1.out.below HB8.out (Nat.le_refl _)) (fun u hu => by obtain ⟨c, _, rfl⟩ := List.mem_map.1 hu; rfl) (by have := HFD.out.1; omega)).mono ?_
      rintro e wa ⟨v1, rfl, o1, B1, L1⟩
      have O1 := Lib.hid o1
      have HBa := Lib.hid B1
      have HL1 := Lib.hid L1
      obtain ⟨a1, n1, rfl, _, _⟩ := rd_of_own o1
      clear o1 B1 L1
      refine hK.out _ _ HBa.out trivial ?_
      clear hK K
      (try simp only [Act.put, List.setIfInBounds_toArray, List.set_cons_zero, List.set_cons_succ])
      refine PlanT.exec2 (fun K hK => ⟨by kernel_rfl, ?_⟩)
      go_simp
      refine (clone_bytes _ _ _ _ ((HQ2.out.below HB8.out (Nat.le_refl _)).below HBa.out (Nat.le_refl _)) (fun u hu => by obtain ⟨c, _, rfl⟩ := List.mem_map.1 hu; rfl) (by have := HFD.out.2.1; omega)).mono ?_
      rintro e wb ⟨v2, rfl, o2, B2, L2⟩
      have O2 := Lib.hid o2
      have HBb := Lib.hid (HBa.out.trans (B2.mono HBa.out.size))
      have HB2 := Lib.hid B2
      have HL2 := Lib.hid L2
      obtain ⟨a2, n2, rfl, _, _⟩ := rd_of_own o2
      clear o2 B2 L2
      refine hK.out _ _ HBb.out trivial ?_
      clear hK K
      (try simp only [Act.put, List.setIfInBounds_toArray, List.set_cons_zero, List.set_cons_succ])
      refine PlanT.exec2 (fun K hK => ⟨by kernel_rfl, ?_⟩)
      go_simp
      refine (clone_writes _ _ _ _ (((HQ3.out.below HB8.out (Nat.le_refl _)).below HBb.out (Nat.le_refl _))) (put_one _) (by have := HFD.out.2.2.1; omega)).mono ?_
      rintro e wc ⟨v3, rfl, o3, B3, L3⟩
      have O3 := Lib.hid o3
      have HBc := Lib.hid (HBb.out.trans (B3.mono HBb.out.size))
      have HB3 := Lib.hid B3
      have HL3 := Lib.hid L3
      obtain ⟨a3, n3, rfl, _, _⟩ := rd_of_own o3
      clear o3 B3 L3
      have HRC := Lib.hid ((HBc.out.block (w.heap.size + 1) HLT.out.2.2).trans HR8.out)
      have r0 : wc.cell? ⟨w.heap.size + 1, i * 3, none⟩ = some (.slice none 0 0) := row_free HRC.out HRL.out hlt 0 (by omega)
      have z0 : wc.frozen? ⟨w.heap.size + 1, i * 3, none⟩ = false := blk_free HRC.out
      have r1 : wc.cell? ⟨w.heap.size + 1, i * 3 + 1, none⟩ = some (.slice none 0 0) := row_free HRC.out HRL.out hlt 1 (by omega)
      have z1 : wc.frozen? ⟨w.heap.size + 1, i * 3 + 1, none⟩ = false := blk_free HRC.out
      have r2 : wc.cell? ⟨w.heap.size + 1, i * 3 + 2, none⟩ = some (.slice none 0 0) := row_free HRC.out HRL.out hlt 2 (by omega)
      have z2 : wc.frozen? ⟨w.heap.size + 1, i * 3 + 2, none⟩ = false := blk_free HRC.out
      refine hK.out _ _ HBc.out trivial ?_
      clear hK K
      (try simp only [Act.put, List.setIfInBounds_toArray, List.set_cons_zero, List.set_cons_succ])
      refine PlanT.take0 (v := ?vC12) (by kernel_rfl) ?yC12 ?rC12
      case yC12 => (intro wz hz; have c5 : wz.cell? ⟨w.heap.size, 5, none⟩ = some (.slice (some ⟨w.heap.size + 1, 0, none⟩) gl.length gl.length) := (hz.cell (p := ⟨w.heap.size, 5, none⟩) HLT.out.1).trans (blk_cell HC8.out); have b0 : wz.cell? ⟨wr.heap.size, 0, none⟩ = some (.slice sa fs.length sc) := (hz.cell (p := ⟨wr.heap.size, 0, none⟩) HLT.out.2.1).trans (blk_cell HX8.out); have b1 : wz.cell? ⟨wr.heap.size, 1, none⟩ = some (.slice na fn.length nc) := (hz.cell (p := ⟨wr.heap.size, 1, none⟩) HLT.out.2.1).trans (blk_cell HX8.out); have b2 : wz.cell? ⟨wr.heap.size, 2, none⟩ = some (.slice ba fl.length bc) := (hz.cell (p := ⟨wr.heap.size, 2, none⟩) HLT.out.2.1).trans (blk_cell HX8.out); clear hz; go_simp; try with_reducible rfl)
      (try simp only [Act.put, List.setIfInBounds_toArray, List.set_cons_zero, List.set_cons_succ])
      refine PlanT.take0 (v := ?vC13) (by kernel_rfl) ?yC13 ?rC13
      case yC13 => (intro wz hz; have c5 : wz.cell? ⟨w.heap.size, 5, none⟩ = some (.slice (some ⟨w.heap.size + 1, 0, none⟩) gl.length gl.length) := (hz.cell (p := ⟨w.heap.size, 5, none⟩) HLT.out.1).trans (blk_cell HC8.out); have b0 : wz.cell? ⟨wr.heap.size, 0, none⟩ = some (.slice sa fs.length sc) := (hz.cell (p := ⟨wr.heap.size, 0, none⟩) HLT.out.2.1).trans (blk_cell HX8.out); have b1 : wz.cell? ⟨wr.heap.size, 1, none⟩ = some (.slice na fn.length nc) := (hz.cell (p := ⟨wr.heap.size, 1, none⟩) HLT.out.2.1).trans (blk_cell HX8.out); have b2 : wz.cell? ⟨wr.heap.size, 2, none⟩ = some (.slice ba fl.length bc) := (hz.cell (p := ⟨wr.heap.size, 2, none⟩) HLT.out.2.1).trans (blk_cell HX8.out); clear hz; go_simp; try with_reducible rfl)
      (try simp only [Act.put, List.setIfInBounds_toArray, List.set_cons_zero, List.set_cons_succ])
      refine PlanT.exec3 (fun K hK => ⟨by kernel_rfl, ?_⟩)
      go_simp
      refine hK.out _ _ trivial ?_
      clear hK K
      (try simp only [Act.put, List.setIfInBounds_toArray, List.set_cons_zero, List.set_cons_succ])
      refine PlanT.done (NoPanic.normal ?_)
      go_wp2
      go_roundw
      case rel =>
        have hkset : Kept (fun k => k ≠ w.heap.size + 1) wc (((wc.setCell ⟨w.heap.size + 1, i * 3, none⟩ (.slice a1 fs.length n1)).setCell ⟨w.heap.size + 1, i * 3 + 1, none⟩ (.slice a2 fn.length n2)).setCell ⟨w.heap.size + 1, i * 3 + 2, none⟩ (.slice a3 fl.length n3)) := (((Kept.refl _ _).setCell (fun h => h rfl) _).setCell (fun h => h rfl) _).setCell (fun h => h rfl) _
        have hBc : Below wr.heap.size wr wc := HB8.out.trans (HBc.out.mono HB8.out.size)
        have b1 := HBa.out.size
        have b2 := HB2.out.size
        have b3 := HB3.out.size
        have b8 := HS8.out
        refine ⟨i + 1, _, _, by omega, by go_num, HREL.out.step (by have := HSA.out; omega) HX.out hBc (.slice a1 fs.length n1) (.slice a2 fn.length n2) (.slice a3 fl.length n3) ?_ ?_ O3.out ?_ ?_ ?_ ?_ ?_ ?_ hkset (by simp [World.setCell]) (row_set HRC.out HRL.out hlt _ _ _ _)⟩
        · exact own_kept (own_kept O1.out (Kept.of HB2.out (R := fun k => k < wa.heap.size) fun _ h => h) fun k e => (HL1.out k e).2) (Kept.of HB3.out (R := fun k => k < wb.heap.size) fun _ h => h) fun k e => by have := (HL1.out k e).2; omega
        · exact own_kept O2.out (Kept.of HB3.out (R := fun k => k < wb.heap.size) fun _ h => h) fun k e => (HL2.out k e).2
        · exact fun k e => by have := HL1.out k e; omega
        · exact fun k e => by have := HL2.out k e; omega
        · exact fun k e => by have := HL3.out k e; omega
        · exact fun k e e' => by have := HL1.out k e; have := HL2.out k e'; omega
        · exact fun k e e' => by have := HL1.out k e; have := HL3.out k e'; omega
        · exact fun k e e' => by have := HL2.out k e; have := HL3.out k e'; omega
      case measure => simp [intOf]; omega
    · have hin : i = gl.length := by omega
      subst hin
      have hpw := HPW.out
      have hlt0 : ¬ (gl.length : Int) < (gl.length : Int) := by omega
      go_wp2
      obtain ⟨w9, hw9⟩ : ∃ w9, w9 = wr.drew := ⟨_, rfl⟩
      have HW9 := Lib.hid hw9
      have HB9 := Lib.hid (show Below wr.heap.size wr w9 by rw [hw9]; exact (Below.refl _ _).drew)
      have HS9 := Lib.hid (show w9.heap.size = wr.heap.size by rw [hw9]; rfl)
      have HBW9 := Lib.hid (HBW.out.trans (HB9.out.mono HBW.out.size))
      have HP9 := Lib.hid ((HB9.out.block p (blk_lt hpw)).trans hpw)
      have HC9 := Lib.hid ((HB9.out.block w.heap.size (blk_lt HCW.out)).trans HCW.out)
      have HLT := Lib.hid (show p < w9.heap.size ∧ w.heap.size < w9.heap.size from ⟨blk_lt HP9.out, blk_lt HC9.out⟩)
      clear hw9 hpw hlt0
      refine wp_region_two (fun wz => Below w9.heap.size w9 wz) (fun _ => True) [(0, 0), (0, 1), (0, 2), (0, 3), (0, 5), (0, 6), (0, 7), (0, 8), (0, 10), (0, 11), (0, 12), (0, 13), (2, 4), (2, 9), (2, 14), (0, 15), (3, 16), (1, 17), (3, 18), (1, 19), (3, 20)] [16, 18, 20] (by kernel_rfl) (by kernel_rfl) (by kernel_rfl) (by kernel_rfl) (by kernel_rfl) (by rw [← HW9.out]; exact Below.refl _ _) trivial ?_
      simp only [planT, List.drop_succ_cons, List.drop_zero]
      rw [← HW9.out]
      refine PlanT.take0 (v := ?vD0) (by kernel_rfl) ?yD0 ?rD0
      case yD0 => (intro wz hz; have p6 : wz.cell? ⟨p, 6, none⟩ = some (.map nb) := (hz.cell (p := ⟨p, 6, none⟩) HLT.out.1).trans (blk_cell HP9.out); have p7 : wz.cell? ⟨p, 7, none⟩ = some (.map sb) := (hz.cell (p := ⟨p, 7, none⟩) HLT.out.1).trans (blk_cell HP9.out); have p8 : wz.cell? ⟨p, 8, none⟩ = some (.slice la d.loose.length lc) := (hz.cell (p := ⟨p, 8, none⟩) HLT.out.1).trans (blk_cell HP9.out); clear hz; go_simp; try with_reducible rfl)
      (try simp only [Act.put, List.setIfInBounds_toArray, List.set_cons_zero, List.set_cons_succ])
      refine PlanT.take0 (v := ?vD1) (by kernel_rfl) ?yD1 ?rD1
      case yD1 => (intro wz hz; have p6 : wz.cell? ⟨p, 6, none⟩ = some (.map nb) := (hz.cell (p := ⟨p, 6, none⟩) HLT.out.1).trans (blk_cell HP9.out); have p7 : wz.cell? ⟨p, 7, none⟩ = some (.map sb) := (hz.cell (p := ⟨p, 7, none⟩) HLT.out.1).trans (blk_cell HP9.out); have p8 : wz.cell? ⟨p, 8, none⟩ = some (.slice la d.loose.length lc) := (hz.cell (p := ⟨p, 8, none⟩) HLT.out.1).trans (blk_cell HP9.out); clear hz; go_simp; try with_reducible rfl)
      (try simp only [Act.put, List.setIfInBounds_toArray, List.set_cons_zero, List.set_cons_succ])
      refine PlanT.take0 (v := ?vD2) (by kernel_rfl) ?yD2 ?rD2
      case yD2 => (intro wz hz; have p6 : wz.cell? ⟨p, 6, none⟩ = some (.map nb) := (hz.cell (p := ⟨p, 6, none⟩) HLT.out.1).trans (blk_cell HP9.out); have p7 : wz.cell? ⟨p, 7, none⟩ = some (.map sb) := (hz.cell (p := ⟨p, 7, none⟩) HLT.out.1).trans (blk_cell HP9.out); have p8 : wz.cell? ⟨p, 8, none⟩ = some (.slice la d.loose.length lc) := (hz.cell (p := ⟨p, 8, none⟩) HLT.out.1).trans (blk_cell HP9.out); clear hz; go_simp; try with_reducible rfl)
      (try simp only [Act.put, List.setIfInBounds_toArray, List.set_cons_zero, List.set_cons_succ])
      refine PlanT.take0 (v := ?vD3) (by kernel_rfl) ?yD3 ?rD3
      case yD3 => (intro wz hz; have p6 : wz.cell? ⟨p, 6, none⟩ = some (.map nb) := (hz.cell (p := ⟨p, 6, none⟩) HLT.out.1).trans (blk_cell HP9.out); have p7 : wz.cell? ⟨p, 7, none⟩ = some (.map sb) := (hz.cell (p := ⟨p, 7, none⟩) HLT.out.1).trans (blk_cell HP9.out); have p8 : wz.cell? ⟨p, 8, none⟩ = some (.slice la d.loose.length lc) := (hz.cell (p := ⟨p, 8, none⟩) HLT.out.1).trans (blk_cell HP9.out); clear hz; go_simp; try with_reducible rfl)
      (try simp only [Act.put, List.setIfInBounds_toArray, List.set_cons_zero, List.set_cons_succ])
      refine PlanT.take0 (v := ?vD5) (by kernel_rfl) ?yD5 ?rD5
      case yD5 => (intro wz hz; have p6 : wz.cell? ⟨p, 6, none⟩ = some (.map nb) := (hz.cell (p := ⟨p, 6, none⟩) HLT.out.1).trans (blk_cell HP9.out); have p7 : wz.cell? ⟨p, 7, none⟩ = some (.map sb) := (hz.cell (p := ⟨p, 7, none⟩) HLT.out.1).trans (blk_cell HP9.out); have p8 : wz.cell? ⟨p, 8, none⟩ = some (.slice la d.loose.length lc) := (hz.cell (p := ⟨p, 8, none⟩) HLT.out.1).trans (blk_cell HP9.out); clear hz; go_simp; try with_reducible rfl)
      (try simp only [Act.put, List.setIfInBounds_toArray, List.set_cons_zero, List.set_cons_succ])
      refine PlanT.take0 (v := ?vD6) (by kernel_rfl) ?yD6 ?rD6
      case yD6 => (intro wz hz; have p6 : wz.cell? ⟨p, 6, none⟩ = some (.map nb) := (hz.cell (p := ⟨p, 6, none⟩) HLT.out.1).trans (blk_cell HP9.out); have p7 : wz.cell? ⟨p, 7, none⟩ = some (.map sb) := (hz.cell (p := ⟨p, 7, none⟩) HLT.out.1).trans (blk_cell HP9.out); have p8 : wz.cell? ⟨p, 8, none⟩ = some (.slice la d.loose.length lc) := (hz.cell (p := ⟨p, 8, none⟩) HLT.out.1).trans (blk_cell HP9.out); clear hz; go_simp; try with_reducible rfl)
      (try simp only [Act.put, List.setIfInBounds_toArray, List.set_cons_zero, List.set_cons_succ])
      refine PlanT.take0 (v := ?vD7) (by kernel_rfl) ?yD7 ?rD7
      case yD7 => (intro wz hz; have p6 : wz.cell? ⟨p, 6, none⟩ = some (.map nb) := (hz.cell (p := ⟨p, 6, none⟩) HLT.out.1).trans (blk_cell HP9.out); have p7 : wz.cell? ⟨p, 7, none⟩ = some (.map sb) := (hz.cell (p := ⟨p, 7, none⟩) HLT.out.1).trans (blk_cell HP9.out); have p8 : wz.cell? ⟨p, 8, none⟩ = some (.slice la d.loose.length lc) := (hz.cell (p := ⟨p, 8, none⟩) HLT.out.1).trans (blk_cell HP9.out); clear hz; go_simp; try with_reducible rfl)
      (try simp only [Act.put, List.setIfInBounds_toArray, List.set_cons_zero, List.set_cons_succ])
      refine PlanT.take0 (v := ?vD8) (by kernel_rfl) ?yD8 ?rD8
      case yD8 => (intro wz hz; have p6 : wz.cell? ⟨p, 6, none⟩ = some (.map nb) := (hz.cell (p := ⟨p, 6, none⟩) HLT.out.1).trans (blk_cell HP9.out); have p7 : wz.cell? ⟨p, 7, none⟩ = some (.map sb) := (hz.cell (p := ⟨p, 7, none⟩) HLT.out.1).trans (blk_cell HP9.out); have p8 : wz.cell? ⟨p, 8, none⟩ = some (.slice la d.loose.length lc) := (hz.cell (p := ⟨p, 8, none⟩) HLT.out.1).trans (blk_cell HP9.out); clear hz; go_simp; try with_reducible rfl)
      (try simp only [Act.put, List.setIfInBounds_toArray, List.set_cons_zero, List.set_cons_succ])
      refine PlanT.take0 (v := ?vD10) (by kernel_rfl) ?yD10 ?rD10
      case yD10 => (intro wz hz; have p6 : wz.cell? ⟨p, 6, none⟩ = some (.map nb) := (hz.cell (p := ⟨p, 6, none⟩) HLT.out.1).trans (blk_cell HP9.out); have p7 : wz.cell? ⟨p, 7, none⟩ = some (.map sb) := (hz.cell (p := ⟨p, 7, none⟩) HLT.out.1).trans (blk_cell HP9.out); have p8 : wz.cell? ⟨p, 8, none⟩ = some (.slice la d.loose.length lc) := (hz.cell (p := ⟨p, 8, none⟩) HLT.out.1).trans (blk_cell HP9.out); clear hz; go_simp; try with_reducible rfl)
      (try simp only [Act.put, List.setIfInBounds_toArray, List.set_cons_zero, List.set_cons_succ])
      refine PlanT.take0 (v := ?vD11) (by kernel_rfl) ?yD11 ?rD11
      case yD11 => (intro wz hz; have p6 : wz.cell? ⟨p, 6, none⟩ = some (.map nb) := (hz.cell (p := ⟨p, 6, none⟩) HLT.out.1).trans (blk_cell HP9.out); have p7 : wz.cell? ⟨p, 7, none⟩ = some (.map sb) := (hz.cell (p := ⟨p, 7, none⟩) HLT.out.1).trans (blk_cell HP9.out); have p8 : wz.cell? ⟨p, 8, none⟩ = some (.slice la d.loose.length lc) := (hz.cell (p := ⟨p, 8, none⟩) HLT.out.1).trans (blk_cell HP9.out); clear hz; go_simp; try with_reducible rfl)
      (try simp only [Act.put, List.setIfInBounds_toArray, List.set_cons_zero, List.set_cons_succ])
      refine PlanT.take0 (v := ?vD12) (by kernel_rfl) ?yD12 ?rD12
      case yD12 => (intro wz hz; have p6 : wz.cell? ⟨p, 6, none⟩ = some (.map nb) := (hz.cell (p := ⟨p, 6, none⟩) HLT.out.1).trans (blk_cell HP9.out); have p7 : wz.cell? ⟨p, 7, none⟩ = some (.map sb) := (hz.cell (p := ⟨p, 7, none⟩) HLT.out.1).trans (blk_cell HP9.out); have p8 : wz.cell? ⟨p, 8, none⟩ = some (.slice la d.loose.length lc) := (hz.cell (p := ⟨p, 8, none⟩) HLT.out.1).trans (blk_cell HP9.out); clear hz; go_simp; try with_reducible rfl)
      (try simp only [Act.put, List.setIfInBounds_toArray, List.set_cons_zero, List.set_cons_succ])
      refine PlanT.take0 (v := ?vD13) (by kernel_rfl) ?yD13 ?rD13
      case yD13 => (intro wz hz; have p6 : wz.cell? ⟨p, 6, none⟩ = some (.map nb) := (hz.cell (p := ⟨p, 6, none⟩) HLT.out.1).trans (blk_cell HP9.out); have p7 : wz.cell? ⟨p, 7, none⟩ = some (.map sb) := (hz.cell (p := ⟨p, 7, none⟩) HLT.out.1).trans (blk_cell HP9.out); have p8 : wz.cell? ⟨p, 8, none⟩ = some (.slice la d.loose.length lc) := (hz.cell (p := ⟨p, 8, none⟩) HLT.out.1).trans (blk_cell HP9.out); clear hz; go_simp; try with_reducible rfl)
      (try simp only [Act.put, List.setIfInBounds_toArray, List.set_cons_zero, List.set_cons_succ])
      refine PlanT.exec2 (fun K hK => ⟨by kernel_rfl, ?_⟩)
      go_simp
      refine (mclone_any _ _ d.names (HNR.out.kept (Kept.of HBW9.out (R := fun k => k < w.heap.size) fun _ h => h) HNR.out.lt)).mono ?_
      rintro e wa ⟨v1, rfl, o1, B1, l1⟩
      have N1 := Lib.hid o1
      have HBa := Lib.hid B1
      have L1 := Lib.hid l1
      obtain ⟨m1, rfl⟩ : ∃ b, v1 = .map b := by rcases o1 with ⟨rfl, _⟩ | ⟨b, rfl, _⟩ <;> exact ⟨_, rfl⟩
      clear o1 B1 l1
      refine hK.out _ _ HBa.out trivial ?_
      clear hK K
      (try simp only [Act.put, List.setIfInBounds_toArray, List.set_cons_zero, List.set_cons_succ])
      refine PlanT.exec2 (fun K hK => ⟨by kernel_rfl, ?_⟩)
      go_simp
      refine (mclone_any _ _ d.safe ((HSR.out.kept (Kept.of HBW9.out (R := fun k => k < w.heap.size) fun _ h => h) HSR.out.lt).kept (Kept.of HBa.out (R := fun k => k < w9.heap.size) fun _ h => h) fun k e => Nat.lt_of_lt_of_le (HSR.out.lt k e) HBW9.out.size)).mono ?_
      rintro e wb ⟨v2, rfl, o2, B2, l2⟩
      have N2 := Lib.hid o2
      have HB2 := Lib.hid B2
      have HBb := Lib.hid (HBa.out.trans (B2.mono HBa.out.size))
      have L2 := Lib.hid l2
      obtain ⟨m2, rfl⟩ : ∃ b, v2 = .map b := by rcases o2 with ⟨rfl, _⟩ | ⟨b, rfl, _⟩ <;> exact ⟨_, rfl⟩
      clear o2 B2 l2
      refine hK.out _ _ HBb.out trivial ?_
      clear hK K
      (try simp only [Act.put, List.setIfInBounds_toArray, List.set_cons_zero, List.set_cons_succ])
      refine PlanT.exec2 (fun K hK => ⟨by kernel_rfl, ?_⟩)
      go_simp
      refine (clone_changes _ _ _ _ (((rd_of_own HLR.out).below HBW9.out (Nat.le_refl _)).below HBb.out (Nat.le_refl _)) (ch_one _) (by have := HSM.out.loose; omega)).mono ?_
      rintro e wd ⟨v3, rfl, o3, B3, l3⟩
      have O3 := Lib.hid o3
      have HB3 := Lib.hid B3
      have HBd := Lib.hid (HBb.out.trans (B3.mono HBb.out.size))
      have L3 := Lib.hid l3
      obtain ⟨a3, n3, rfl, _, _⟩ := rd_of_own o3
      clear o3 B3 l3
      have r6 : wd.cell? ⟨w.heap.size, 6, none⟩ = some (.map nb) := blk_cell ((HBd.out.block w.heap.size HLT.out.2).trans HC9.out)
      have z6 : wd.frozen? ⟨w.heap.size, 6, none⟩ = false := blk_free ((HBd.out.block w.heap.size HLT.out.2).trans HC9.out)
      have r7 : wd.cell? ⟨w.heap.size, 7, none⟩ = some (.map sb) := blk_cell ((HBd.out.block w.heap.size HLT.out.2).trans HC9.out)
      have z7 : wd.frozen? ⟨w.heap.size, 7, none⟩ = false := blk_free ((HBd.out.block w.heap.size HLT.out.2).trans HC9.out)
      have r8 : wd.cell? ⟨w.heap.size, 8, none⟩ = some (.slice la d.loose.length lc) := blk_cell ((HBd.out.block w.heap.size HLT.out.2).trans HC9.out)
      have z8 : wd.frozen? ⟨w.heap.size, 8, none⟩ = false := blk_free ((HBd.out.block w.heap.size HLT.out.2).trans HC9.out)
      refine hK.out _ _ HBd.out trivial ?_
      clear hK K
      (try simp only [Act.put, List.setIfInBounds_toArray, List.set_cons_zero, List.set_cons_succ])
      refine PlanT.take0 (v := ?vD15) (by kernel_rfl) ?yD15 ?rD15
      case yD15 => (intro wz hz; have p6 : wz.cell? ⟨p, 6, none⟩ = some (.map nb) := (hz.cell (p := ⟨p, 6, none⟩) HLT.out.1).trans (blk_cell HP9.out); have p7 : wz.cell? ⟨p, 7, none⟩ = some (.map sb) := (hz.cell (p := ⟨p, 7, none⟩) HLT.out.1).trans (blk_cell HP9.out); have p8 : wz.cell? ⟨p, 8, none⟩ = some (.slice la d.loose.length lc) := (hz.cell (p := ⟨p, 8, none⟩) HLT.out.1).trans (blk_cell HP9.out); clear hz; go_simp; try with_reducible rfl)
      (try simp only [Act.put, List.setIfInBounds_toArray, List.set_cons_zero, List.set_cons_succ])
      refine PlanT.exec3 (fun K hK => ⟨by kernel_rfl, ?_⟩)
      go_simp
      refine hK.out _ _ trivial ?_
      clear hK K
      (try simp only [Act.put, List.setIfInBounds_toArray, List.set_cons_zero, List.set_cons_succ])
      refine PlanT.take1 (v := ?vD17) (by kernel_rfl) ?yD17 ?rD17
      case yD17 => (intro wz hz; clear hz; go_simp; try with_reducible rfl)
      (try simp only [Act.put, List.setIfInBounds_toArray, List.set_cons_zero, List.set_cons_succ])
      refine PlanT.exec3 (fun K hK => ⟨by kernel_rfl, ?_⟩)
      go_simp
      refine hK.out _ _ trivial ?_
      clear hK K
      (try simp only [Act.put, List.setIfInBounds_toArray, List.set_cons_zero, List.set_cons_succ])
      refine PlanT.take1 (v := ?vD19) (by kernel_rfl) ?yD19 ?rD19
      case yD19 => (intro wz hz; clear hz; go_simp; try with_reducible rfl)
      (try simp only [Act.put, List.setIfInBounds_toArray, List.set_cons_zero, List.set_cons_succ])
      refine PlanT.exec3 (fun K hK => ⟨by kernel_rfl, ?_⟩)
      go_simp
      refine hK.out _ _ trivial ?_
      clear hK K
      (try simp only [Act.put, List.setIfInBounds_toArray, List.set_cons_zero, List.set_cons_succ])
      refine PlanT.done (NoPanic.normal ?_)
      go_wp2
      go_ret
      have b9 := HS9.out
      have b1 := HBa.out.size
      have b2 := HB2.out.size
      have b3 := HB3.out.size
      have hkset : Kept (fun k => k ≠ w.heap.size) wd (((wd.setCell ⟨w.heap.size, 6, none⟩ (.map m1)).setCell ⟨w.heap.size, 7, none⟩ (.map m2)).setCell ⟨w.heap.size, 8, none⟩ (.slice a3 d.loose.length n3)) := (((Kept.refl _ _).setCell (fun h => h rfl) _).setCell (fun h => h rfl) _).setCell (fun h => h rfl) _
      have hBd : Below wr.heap.size wr wd := HB9.out.trans (HBd.out.mono HB9.out.size)
      have hkw : Kept (fun k => k < wr.heap.size ∧ k ≠ w.heap.size) wr _ := (Kept.of hBd fun k hk => hk.1).trans (Kept.mono hkset fun k hk => hk.2)
      have hcl := blk_lt HCW.out
      have hcd : wd.heap[w.heap.size]? = _ := (HBd.out.block w.heap.size HLT.out.2).trans HC9.out
      obtain ⟨g', k1, k2⟩ := copy_final (d := d) (nv := .map m1) (sv := .map m2) (lv := .slice a3 d.loose.length n3) HREL.out HSA.out hgl H.out.fl hkw
        ((blk_set (i := 8) (blk_set (i := 7) (blk_set (i := 6) hcd (.map m1)) (.map m2)) (.slice a3 d.loose.length n3)).trans (by simp))
        ((N1.out.kept (Kept.of HB2.out (R := fun k => k < wa.heap.size) fun _ h => h) fun k e => (L1.out k e).2).kept (R := fun k => k < wb.heap.size ∧ k ≠ w.heap.size) ((Kept.of HB3.out fun k hk => hk.1).trans (Kept.mono hkset fun k hk => hk.2)) fun k e => by have := L1.out k e; omega)
        (N2.out.kept (R := fun k => k < wb.heap.size ∧ k ≠ w.heap.size) ((Kept.of HB3.out fun k hk => hk.1).trans (Kept.mono hkset fun k hk => hk.2)) fun k e => by have := L2.out k e; omega)
        (own_kept O3.out hkset fun k e => by have := L3.out k e; omega)
        (fun k e => by have := L1.out k e; omega) (fun k e => by have := L2.out k e; omega) (fun k e => by have := L3.out k e; omega)
        (fun k e e' => by have := L1.out k e; have := L2.out k e'; omega) (fun k e e' => by have := L1.out k e; have := L3.out k e'; omega) (fun k e e' => by have := L2.out k e; have := L3.out k e'; omega)
      exact ⟨_, g', rfl, k1, k2, HBW.out.trans (Kept.below hkw fun k hk => ⟨by omega, by omega⟩)⟩
end Go.Proofs.Ytfeogoihkpclcaa
