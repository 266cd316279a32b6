/-
  Loose writes made safe, the first bytes of them (what 'settle' of a file does).
-/
import Derived.Test.YtmlijnekidihbaaDiskOver
namespace Go.Proofs.Ytmlijnekidihbaa
open Go.RowKit

/-- As 'wr' (a world has that name, too). -/
abbrev wrAt (b : List UInt8) (a : Nat) (p : List UInt8) : List UInt8 := wr b a p

/-- Writes that may be, one behind the other. -/
def WOk : List UInt8 → List (Nat × List UInt8) → Prop
  | _, [] => True
  | b, p :: r => p.1 ≤ b.length ∧ WOk (wr b p.1 p.2) r

def manyL (l : List (Nat × List UInt8)) : Nat := (l.map fun p => p.2.length).sum

theorem kept_zero (l : List (Nat × List UInt8)) (b : List UInt8) : kept l 0 b = b := by
  cases l <;> simp [kept]

theorem kept_cons (p : Nat × List UInt8) (r : List (Nat × List UInt8)) (left : Nat) (b : List UInt8) (h : left ≠ 0) : kept (p :: r) left b = kept r (left - p.2.length) (wr b p.1 (p.2.take left)) := by
  rw [kept, if_neg h]

theorem drop_at {α : Type} {l : List α} {k : Nat} {q : α} (h : l[k]? = some q) : l.drop k = q :: l.drop (k + 1) := by
  obtain ⟨hk, rfl⟩ := List.getElem?_eq_some_iff.1 h
  exact List.drop_eq_getElem_cons hk

theorem set_self {cur : Array Value} {i : Nat} {v : Value} (h : cur[i]? = some v) : cur.setIfInBounds i v = cur := by
  obtain ⟨hi, rfl⟩ := Array.getElem?_eq_some_iff.1 h
  apply Array.ext
  · simp
  · intro j h1 h2
    rw [Array.getElem_setIfInBounds]
    split
    · rename_i e; subst e; rfl
    · rfl

theorem manyL_cons (p : Nat × List UInt8) (r : List (Nat × List UInt8)) : manyL (p :: r) = p.2.length + manyL r := by simp [manyL]

theorem own_one {w : World} {B e size n : Nat} {v : Value} {cs : List Value} (h : w.ownsRow B e size v n cs) : v.oneCell' = true := by
  obtain ⟨a, cap, rfl, _⟩ := rd_of_own h
  rfl

theorem extract_take (p : List UInt8) (n : Nat) : (strB p).extract 0 n = strB (p.take n) := by
  apply ByteArray.ext
  apply Array.ext'
  rw [ByteArray.data_extract]
  simp [List.extract_eq_take_drop]

set_option maxRecDepth 100000 in
set_option maxHeartbeats 4000000 in
set_option linter.unusedSimpArgs false in
theorem fsettle_any (w : World) (b off left : Nat) (cur : Array Value) (t : Nat) (vs vl : Value) (safe : List UInt8) (l : List (Nat × List UInt8)) (hb : w.heap[b]? = some (.cells cur t (0, 0))) (h0 : cur[off]? = some vs) (h2 : cur[off + 2]? = some vl)
    (hs : OwnB w 0 5 vs safe) (hl : w.ownsRow 0 96 2 vl l.length (putCells l)) (hbs : vs.ownBlock ≠ some b) (hbl : vl.ownBlock ≠ some b) (hsl : ∀ k, vs.ownBlock = some k → vl.ownBlock ≠ some k) (hok : WOk safe l)
    (hsz : safe.length + manyL l < 100000000000) (hln : l.length < 1000000000) (hleft : left < 1000000000000) :
    Calls Try.prog 59 #[.pointer (some ⟨b, off, none⟩), .int .i64 (left : Int)] w fun e w' => e = .returned (.tuple #[]) ∧ ∃ vs', OwnB w' 0 5 vs' (kept l left safe) ∧
      w'.heap[b]? = some (.cells ((cur.setIfInBounds off vs').setIfInBounds (off + 2) (.slice none 0 0)) t (0, 0)) ∧
      Kept (fun k => k < w.heap.size ∧ k ≠ b ∧ vs.ownBlock ≠ some k) w w' ∧ (∀ k, vs'.ownBlock = some k → vs.ownBlock = some k ∨ (w.heap.size ≤ k ∧ k < w'.heap.size)) := by
  have hblt := blk_lt hb
  have hoff : off < cur.size := (Array.getElem?_eq_some_iff.1 h0).1
  have hoff2 : off + 2 < cur.size := (Array.getElem?_eq_some_iff.1 h2).1
  obtain ⟨al, capl, rfl, _, _, _, _⟩ := rd_of_own hl
  have hc2 : w.cell? ⟨b, off + 2, none⟩ = some (.slice al l.length capl) := (blk_cell hb).trans h2
  obtain ⟨SZ, hSZ⟩ : ∃ n, n = w.heap.size := ⟨_, rfl⟩
  have hlen0 := Lib.hid hsz
  clear hsz
  have H0 := Lib.hid h0
  have H2 := Lib.hid h2
  have HB := Lib.hid hb
  have HOK := Lib.hid hok
  have HS := Lib.hid hs
  have HL := Lib.hid hl
  have HSL := Lib.hid hsl
  clear h0 h2 hb hok hs hl hsl
  go_enter Try.func59, Try.ntmps59
  go_wp2; go_step3; go_wp2; go_step3; go_wp2
  clear hc2
  go_loopw [1, 11] (fun lv i wr => ∃ (k lk : Nat) (sk : List UInt8) (vs2 : Value), k ≤ l.length ∧ i = .int .i64 k ∧ lv = .int .i64 lk ∧ lk < 1000000000000 ∧ kept (l.drop k) lk sk = kept l left safe ∧ (lk = 0 ∨ WOk sk (l.drop k)) ∧ sk.length + manyL (l.drop k) < 100000000000 ∧
      OwnB wr 0 5 vs2 sk ∧ wr.heap[b]? = some (.cells (cur.setIfInBounds off vs2) t (0, 0)) ∧ Kept (fun k => k < w.heap.size ∧ k ≠ b ∧ vs.ownBlock ≠ some k) w wr ∧ (∀ k, vs2.ownBlock = some k → vs.ownBlock = some k ∨ (w.heap.size ≤ k ∧ k < wr.heap.size))) (fun _ i _ => l.length - (intOf i).toNat)
  case atStart => exact ⟨0, left, safe, vs, Nat.zero_le _, rfl, rfl, hleft, rfl, .inr HOK.out, by simpa using hlen0.out, HS.out, by rw [HB.out, set_self H0.out], Kept.refl _ _, fun k hk => .inl hk⟩
  case round =>
    obtain ⟨k, lk, sk, vs2, hk, rfl, rfl, hlk, hkp, hwok, hlen, ho, hbw, hkept, hloc⟩ := hrel
    have HKP := Lib.hid hkp
    have HWOK := Lib.hid hwok
    have HBW := Lib.hid hbw
    have HLOC := Lib.hid hloc
    clear hkp hwok hbw hloc
    by_cases hlt : k < l.length
    · obtain ⟨q, hq⟩ : ∃ q, l[k]? = some q := ⟨_, List.getElem?_eq_getElem hlt⟩
      obtain ⟨g, capl', curl, hv, _, _, hg, hcc, _⟩ := own_form HL.out (by omega)
      cases hv
      have hgb : g ≠ b := fun e => hbl (by rw [e]; rfl)
      have hgs : vs.ownBlock ≠ some g := fun e => HSL.out g e rfl
      obtain ⟨q1, q2⟩ := put_at l k q hq
      have hglt := blk_lt hg
      have e1 : wr.cell? ⟨g, k * 2, none⟩ = some (.int .i64 (q.1 : Int)) := (hkept.cell (p := ⟨g, k * 2, none⟩) ⟨hglt, hgb, hgs⟩).trans (hcc _ _ q1)
      have e2 : wr.cell? ⟨g, k * 2 + 1, none⟩ = some (.string (strB q.2)) := (hkept.cell (p := ⟨g, k * 2 + 1, none⟩) ⟨hglt, hgb, hgs⟩).trans (hcc _ _ q2)
      have hqs := strB_size q.2
      have hdr := drop_at hq
      have HDR := Lib.hid hdr
      have hml : manyL (l.drop k) = q.2.length + manyL (l.drop (k + 1)) := by rw [hdr, manyL_cons]
      have HML := Lib.hid hml
      rw [hml] at hlen
      clear q1 q2 hcc hq hg hdr hml
      have hszw := hkept.size
      by_cases hz : lk = 0
      · have HX : Hid (kept l left safe = sk) := by rw [← HKP.out, hz]; exact kept_zero _ _
        subst hz
        have hbwlt := blk_lt HBW.out
        have hbw3 : (wr.alloc (.cells #[.int .i64 (q.1 : Int), .string (strB q.2)] 96)).heap[b]? = some (.cells (cur.setIfInBounds off vs2) t (0, 0)) := (Below.heap_alloc _ _ _ hbwlt).trans HBW.out
        have c3 : wr.cell? ⟨b, off + 2, none⟩ = some (.slice (some ⟨g, 0, none⟩) l.length capl) := by
          rw [blk_cell HBW.out, Array.getElem?_setIfInBounds_ne (by omega)]
          exact H2.out
        have f3 : wr.frozen? ⟨b, off + 2, none⟩ = false := blk_free HBW.out
        have HB3 := Lib.hid hbw3
        clear hbw3
        go_wp2
        go_end0
        refine ⟨rfl, vs2, ?_, ?_, (hkept.setCell (fun h => h.2.1 rfl) _).alloc (fun k hk => by simp [World.setCell]; omega) _, ?_⟩
        · rw [HX.out]
          exact own_kept ho (R := fun k => k ≠ b ∧ k < wr.heap.size) (((Kept.refl _ wr).setCell (fun h => h.1 rfl) _).alloc (fun k hk => by simp [World.setCell]; exact hk.2) _) fun k hk => ⟨fun e => by have := HLOC.out k hk; subst e; rcases this with h | h; exact hbs h; omega, own_lt ho k hk⟩
        · exact (Below.heap_alloc _ _ _ (by simpa [World.setCell] using hbwlt)).trans (blk_set HBW.out _)
        · intro k hk
          rcases HLOC.out k hk with h | h
          · exact .inl h
          · exact .inr (by simp [World.setCell]; omega)
      · have hbwlt := blk_lt HBW.out
        have hbv2 : vs2.ownBlock ≠ some b := fun e => by rcases HLOC.out b e with h | h; exact hbs h; omega
        have hBKv : vs2.ownBlock ≠ some wr.heap.size := fun e => by have := own_lt ho _ e; omega
        have hwok : q.1 ≤ sk.length ∧ WOk (wrAt sk q.1 q.2) (l.drop (k + 1)) := by
          rcases HWOK.out with h | h
          · exact absurd h hz
          · rw [HDR.out] at h; exact h
        obtain ⟨hat, hwok2⟩ := hwok
        have hkc := kept_cons q (l.drop (k + 1)) lk sk hz
        rw [← HDR.out, HKP.out] at hkc
        have HKC := Lib.hid hkc
        have HW2 := Lib.hid hwok2
        clear hkc hwok2
        have hlkp : (0 : Int) < (lk : Int) := by omega
        by_cases hcut : lk < q.2.length
        · have hext := extract_take q.2 lk
          have htl : (q.2.take lk).length = lk := by rw [List.length_take]; omega
          have hwl := wr_length sk (q.2.take lk) q.1 hat
          rw [htl] at hwl
          have hsz : sk.length + (q.2.take lk).length < 1000000000000 := by rw [htl]; omega
          have hts := strB_size (q.2.take lk)
          rw [htl] at hts
          have HWL := Lib.hid hwl
          have HTL := Lib.hid htl
          clear hwl htl
          obtain ⟨w1, hw1⟩ : ∃ w1, w1 = (wr.alloc (.cells #[.int .i64 (q.1 : Int), .string (strB (q.2.take lk))] 96)).drew := ⟨_, rfl⟩
          have hbel : Below wr.heap.size wr w1 := by subst hw1; exact ((Below.refl _ _).alloc (Nat.le_refl _) _).drew
          have hbx : w1.heap[wr.heap.size]? = some (.cells #[.int .i64 (q.1 : Int), .string (strB (q.2.take lk))] 96 (0, 0)) := by subst hw1; exact heap_alloc_new wr _
          have hb1 : w1.heap[b]? = some (.cells (cur.setIfInBounds off vs2) t (0, 0)) := (hbel.block b hbwlt).trans HBW.out
          have ho1 : OwnB w1 0 5 vs2 sk := own_kept ho (Kept.of hbel (R := fun k => k < wr.heap.size) fun _ h => h) fun k hk => own_lt ho k hk
          have hcur0 : (cur.setIfInBounds off vs2)[off]? = some vs2 := by simp [hoff]
          have c0 : w1.cell? ⟨b, off, none⟩ = some vs2 := (blk_cell hb1).trans hcur0
          have b0 : w1.cell? ⟨wr.heap.size, 0, none⟩ = some (.int .i64 (q.1 : Int)) := blk_cell hbx
          have b1 : w1.cell? ⟨wr.heap.size, 1, none⟩ = some (.string (strB (q.2.take lk))) := blk_cell hbx
          have Hw1 := Lib.hid hw1
          have HB1 := Lib.hid hb1
          have HBX := Lib.hid hbx
          have HC0 := Lib.hid hcur0
          clear hw1 hb1 hbx hcur0
          go_wp2
          refine wp_region_two (fun wz => wz = w1) (fun _ => True) [(1, 0), (0, 1), (0, 2), (0, 3), (0, 4), (0, 5), (3, 6), (1, 7), (1, 8), (3, 9)] [6, 9] (by kernel_rfl) (by kernel_rfl) (by kernel_rfl) (by kernel_rfl) (by kernel_rfl) Hw1.out.symm trivial ?_
          simp only [planT, List.drop_succ_cons, List.drop_zero]
          rw [← Hw1.out]
          refine PlanT.take1 (v := ?vA0) (by kernel_rfl) ?yA0 ?rA0
          case yA0 => (intro wz hz; go_simp; try with_reducible rfl)
          (try simp only [Act.put, List.setIfInBounds_toArray, List.set_cons_zero, List.set_cons_succ])
          refine PlanT.take0 (v := ?vA1) (by kernel_rfl) ?yA1 ?rA1
          case yA1 => (intro wz hz; subst hz; go_simp; try with_reducible rfl)
          (try simp only [Act.put, List.setIfInBounds_toArray, List.set_cons_zero, List.set_cons_succ])
          refine PlanT.take0 (v := ?vA2) (by kernel_rfl) ?yA2 ?rA2
          case yA2 => (intro wz hz; subst hz; go_simp; try with_reducible rfl)
          (try simp only [Act.put, List.setIfInBounds_toArray, List.set_cons_zero, List.set_cons_succ])
          refine PlanT.take0 (v := ?vA3) (by kernel_rfl) ?yA3 ?rA3
          case yA3 => (intro wz hz; subst hz; go_simp; try with_reducible rfl)
          (try simp only [Act.put, List.setIfInBounds_toArray, List.set_cons_zero, List.set_cons_succ])
          refine PlanT.take0 (v := ?vA4) (by kernel_rfl) ?yA4 ?rA4
          case yA4 => (intro wz hz; subst hz; go_simp; try with_reducible rfl)
          (try simp only [Act.put, List.setIfInBounds_toArray, List.set_cons_zero, List.set_cons_succ])
          refine PlanT.take0 (v := ?vA5) (by kernel_rfl) ?yA5 ?rA5
          case yA5 => (intro wz hz; subst hz; go_simp; try with_reducible rfl)
          (try simp only [Act.put, List.setIfInBounds_toArray, List.set_cons_zero, List.set_cons_succ])
          refine PlanT.exec3 (fun K hK => ⟨by kernel_rfl, ?_⟩)
          go_simp
          refine (over_any w1 q.1 (q.2.take lk) vs2 sk ho1 hat hsz).mono ?_
          rintro e w2 ⟨v2, rfl, ho2, hm2⟩
          obtain ⟨av2, cv2, hv2, _, _⟩ := ho2.read.form
          subst hv2
          have hb1 := HB1.out
          have hcur0 := HC0.out
          have hb2 := (hm2.grown.block b (blk_lt hb1) (fun e => hbv2 e.symm)).trans hb1
          have c2 : w2.cell? ⟨b, off, none⟩ = some vs2 := (blk_cell hb2).trans hcur0
          have f2 : w2.frozen? ⟨b, off, none⟩ = false := blk_free hb2
          have HB2 := Lib.hid hb2
          clear hb1 hcur0 hb2
          refine hK.out _ _ trivial ?_
          clear hK K
          (try simp only [Act.put, List.setIfInBounds_toArray, List.set_cons_zero, List.set_cons_succ])
          refine PlanT.take1 (v := ?vA7) (by kernel_rfl) ?yA7 ?rA7
          case yA7 => (intro wz hz; go_simp; try with_reducible rfl)
          (try simp only [Act.put, List.setIfInBounds_toArray, List.set_cons_zero, List.set_cons_succ])
          refine PlanT.take1 (v := ?vA8) (by kernel_rfl) ?yA8 ?rA8
          case yA8 => (intro wz hz; go_simp; try with_reducible rfl)
          (try simp only [Act.put, List.setIfInBounds_toArray, List.set_cons_zero, List.set_cons_succ])
          refine PlanT.exec3 (fun K hK => ⟨by kernel_rfl, ?_⟩)
          go_simp
          refine hK.out _ _ trivial ?_
          clear hK K
          (try simp only [Act.put, List.setIfInBounds_toArray, List.set_cons_zero, List.set_cons_succ])
          refine PlanT.done (NoPanic.normal ?_)
          have hbx2 := (hm2.grown.block wr.heap.size (blk_lt HBX.out) (fun e => hBKv e.symm)).trans HBX.out
          have b2 : w2.cell? ⟨wr.heap.size, 1, none⟩ = some (.string (strB (q.2.take lk))) := blk_cell hbx2
          have hbk : ¬ b = wr.heap.size := by omega
          have hbk2 : ¬ wr.heap.size = b := fun e => hbk e.symm
          clear hbx2
          go_wp2
          go_roundw
          case rel =>
            refine ⟨k + 1, 0, wrAt sk q.1 (q.2.take lk), .slice av2 (wrAt sk q.1 (q.2.take lk)).length cv2, by omega, by go_num, ?_, by omega, ?_, ?_, ?_, ?_, ?_, ?_, ?_⟩
            · have : ((lk : Int) - (lk : Int)) = 0 := by omega
              simp
            · rw [HKC.out, Nat.sub_eq_zero_of_le (by omega)]
            · exact .inl rfl
            · rw [HWL.out]; omega
            · exact own_kept ho2 (R := fun k => k ≠ b) ((Kept.refl _ w2).setCell (fun h => h rfl) _) fun k hk e => by
                subst e
                rcases hm2.at_ k hk with h | h
                · exact hbv2 h
                · have := blk_lt HB1.out; omega
            · have := blk_set (i := off) HB2.out (.slice av2 (wrAt sk q.1 (q.2.take lk)).length cv2)
              rw [Array.setIfInBounds_setIfInBounds] at this
              exact this
            · refine ((hkept.trans (Kept.of hbel fun k hk => by omega)).trans (hm2.kept fun k hk => ⟨by have := hbel.size; omega, fun e => ?_⟩)).setCell (fun h => h.2.1 rfl) _
              rcases HLOC.out k e with h | h
              · exact hk.2.2 h
              · omega
            · intro k hk
              have h9 := hbel.size
              have h8 := hm2.grown.size
              rcases hm2.at_ k hk with h | h
              · rcases HLOC.out k h with h | h
                · exact .inl h
                · exact .inr (by simp [World.setCell]; omega)
              · exact .inr (by simp [World.setCell]; omega)
          case measure => simp [intOf]; omega
        · have hts := strB_size q.2
          have htk : q.2.take lk = q.2 := List.take_of_length_le (by omega)
          have hwl := wr_length sk q.2 q.1 hat
          have hsz : sk.length + q.2.length < 1000000000000 := by omega
          have HWL := Lib.hid hwl
          have HTK := Lib.hid htk
          clear hwl htk
          obtain ⟨w1, hw1⟩ : ∃ w1, w1 = (wr.alloc (.cells #[.int .i64 (q.1 : Int), .string (strB (q.2))] 96)).drew := ⟨_, rfl⟩
          have hbel : Below wr.heap.size wr w1 := by subst hw1; exact ((Below.refl _ _).alloc (Nat.le_refl _) _).drew
          have hbx : w1.heap[wr.heap.size]? = some (.cells #[.int .i64 (q.1 : Int), .string (strB (q.2))] 96 (0, 0)) := by subst hw1; exact heap_alloc_new wr _
          have hb1 : w1.heap[b]? = some (.cells (cur.setIfInBounds off vs2) t (0, 0)) := (hbel.block b hbwlt).trans HBW.out
          have ho1 : OwnB w1 0 5 vs2 sk := own_kept ho (Kept.of hbel (R := fun k => k < wr.heap.size) fun _ h => h) fun k hk => own_lt ho k hk
          have hcur0 : (cur.setIfInBounds off vs2)[off]? = some vs2 := by simp [hoff]
          have c0 : w1.cell? ⟨b, off, none⟩ = some vs2 := (blk_cell hb1).trans hcur0
          have b0 : w1.cell? ⟨wr.heap.size, 0, none⟩ = some (.int .i64 (q.1 : Int)) := blk_cell hbx
          have b1 : w1.cell? ⟨wr.heap.size, 1, none⟩ = some (.string (strB (q.2))) := blk_cell hbx
          have Hw1 := Lib.hid hw1
          have HB1 := Lib.hid hb1
          have HBX := Lib.hid hbx
          have HC0 := Lib.hid hcur0
          clear hw1 hb1 hbx hcur0
          go_wp2
          refine wp_region_two (fun wz => wz = w1) (fun _ => True) [(1, 0), (0, 1), (0, 2), (0, 3), (0, 4), (0, 5), (3, 6), (1, 7), (1, 8), (3, 9)] [6, 9] (by kernel_rfl) (by kernel_rfl) (by kernel_rfl) (by kernel_rfl) (by kernel_rfl) Hw1.out.symm trivial ?_
          simp only [planT, List.drop_succ_cons, List.drop_zero]
          rw [← Hw1.out]
          refine PlanT.take1 (v := ?vB0) (by kernel_rfl) ?yB0 ?rB0
          case yB0 => (intro wz hz; go_simp; try with_reducible rfl)
          (try simp only [Act.put, List.setIfInBounds_toArray, List.set_cons_zero, List.set_cons_succ])
          refine PlanT.take0 (v := ?vB1) (by kernel_rfl) ?yB1 ?rB1
          case yB1 => (intro wz hz; subst hz; go_simp; try with_reducible rfl)
          (try simp only [Act.put, List.setIfInBounds_toArray, List.set_cons_zero, List.set_cons_succ])
          refine PlanT.take0 (v := ?vB2) (by kernel_rfl) ?yB2 ?rB2
          case yB2 => (intro wz hz; subst hz; go_simp; try with_reducible rfl)
          (try simp only [Act.put, List.setIfInBounds_toArray, List.set_cons_zero, List.set_cons_succ])
          refine PlanT.take0 (v := ?vB3) (by kernel_rfl) ?yB3 ?rB3
          case yB3 => (intro wz hz; subst hz; go_simp; try with_reducible rfl)
          (try simp only [Act.put, List.setIfInBounds_toArray, List.set_cons_zero, List.set_cons_succ])
          refine PlanT.take0 (v := ?vB4) (by kernel_rfl) ?yB4 ?rB4
          case yB4 => (intro wz hz; subst hz; go_simp; try with_reducible rfl)
          (try simp only [Act.put, List.setIfInBounds_toArray, List.set_cons_zero, List.set_cons_succ])
          refine PlanT.take0 (v := ?vB5) (by kernel_rfl) ?yB5 ?rB5
          case yB5 => (intro wz hz; subst hz; go_simp; try with_reducible rfl)
          (try simp only [Act.put, List.setIfInBounds_toArray, List.set_cons_zero, List.set_cons_succ])
          refine PlanT.exec3 (fun K hK => ⟨by kernel_rfl, ?_⟩)
          go_simp
          refine (over_any w1 q.1 (q.2) vs2 sk ho1 hat hsz).mono ?_
          rintro e w2 ⟨v2, rfl, ho2, hm2⟩
          obtain ⟨av2, cv2, hv2, _, _⟩ := ho2.read.form
          subst hv2
          have hb1 := HB1.out
          have hcur0 := HC0.out
          have hb2 := (hm2.grown.block b (blk_lt hb1) (fun e => hbv2 e.symm)).trans hb1
          have c2 : w2.cell? ⟨b, off, none⟩ = some vs2 := (blk_cell hb2).trans hcur0
          have f2 : w2.frozen? ⟨b, off, none⟩ = false := blk_free hb2
          have HB2 := Lib.hid hb2
          clear hb1 hcur0 hb2
          refine hK.out _ _ trivial ?_
          clear hK K
          (try simp only [Act.put, List.setIfInBounds_toArray, List.set_cons_zero, List.set_cons_succ])
          refine PlanT.take1 (v := ?vB7) (by kernel_rfl) ?yB7 ?rB7
          case yB7 => (intro wz hz; go_simp; try with_reducible rfl)
          (try simp only [Act.put, List.setIfInBounds_toArray, List.set_cons_zero, List.set_cons_succ])
          refine PlanT.take1 (v := ?vB8) (by kernel_rfl) ?yB8 ?rB8
          case yB8 => (intro wz hz; go_simp; try with_reducible rfl)
          (try simp only [Act.put, List.setIfInBounds_toArray, List.set_cons_zero, List.set_cons_succ])
          refine PlanT.exec3 (fun K hK => ⟨by kernel_rfl, ?_⟩)
          go_simp
          refine hK.out _ _ trivial ?_
          clear hK K
          (try simp only [Act.put, List.setIfInBounds_toArray, List.set_cons_zero, List.set_cons_succ])
          refine PlanT.done (NoPanic.normal ?_)
          have hbx2 := (hm2.grown.block wr.heap.size (blk_lt HBX.out) (fun e => hBKv e.symm)).trans HBX.out
          have b2 : w2.cell? ⟨wr.heap.size, 1, none⟩ = some (.string (strB (q.2))) := blk_cell hbx2
          have hbk : ¬ b = wr.heap.size := by omega
          have hbk2 : ¬ wr.heap.size = b := fun e => hbk e.symm
          clear hbx2
          go_wp2
          go_roundw
          case rel =>
            refine ⟨k + 1, lk - q.2.length, wrAt sk q.1 (q.2), .slice av2 (wrAt sk q.1 (q.2)).length cv2, by omega, by go_num, ?_, by omega, ?_, ?_, ?_, ?_, ?_, ?_, ?_⟩
            · go_num
            · rw [HKC.out, HTK.out]
            · exact .inr HW2.out
            · rw [HWL.out]; omega
            · exact own_kept ho2 (R := fun k => k ≠ b) ((Kept.refl _ w2).setCell (fun h => h rfl) _) fun k hk e => by
                subst e
                rcases hm2.at_ k hk with h | h
                · exact hbv2 h
                · have := blk_lt HB1.out; omega
            · have := blk_set (i := off) HB2.out (.slice av2 (wrAt sk q.1 (q.2)).length cv2)
              rw [Array.setIfInBounds_setIfInBounds] at this
              exact this
            · refine ((hkept.trans (Kept.of hbel fun k hk => by omega)).trans (hm2.kept fun k hk => ⟨by have := hbel.size; omega, fun e => ?_⟩)).setCell (fun h => h.2.1 rfl) _
              rcases HLOC.out k e with h | h
              · exact hk.2.2 h
              · omega
            · intro k hk
              have h9 := hbel.size
              have h8 := hm2.grown.size
              rcases hm2.at_ k hk with h | h
              · rcases HLOC.out k h with h | h
                · exact .inl h
                · exact .inr (by simp [World.setCell]; omega)
              · exact .inr (by simp [World.setCell]; omega)
          case measure => simp [intOf]; omega
    · have HX : Hid (kept l left safe = sk) := by rw [← HKP.out, List.drop_eq_nil_of_le (by omega)]; exact rfl
      have hbw3 : wr.heap[b]? = some (.cells (cur.setIfInBounds off vs2) t (0, 0)) := HBW.out
      have c3 : wr.cell? ⟨b, off + 2, none⟩ = some (.slice al l.length capl) := by
        rw [blk_cell hbw3, Array.getElem?_setIfInBounds_ne (by omega)]
        exact H2.out
      have f3 : wr.frozen? ⟨b, off + 2, none⟩ = false := blk_free hbw3
      clear hbw3
      go_wp2
      rw [Exit.noGoto_normal]
      go_wp2
      go_end0
      refine ⟨rfl, vs2, ?_, blk_set HBW.out _, hkept.setCell (fun h => h.2.1 rfl) _, ?_⟩
      · rw [HX.out]
        exact own_kept ho (R := fun k => k ≠ b) ((Kept.refl _ wr).setCell (fun h => h rfl) _) fun k hk e => by have := HLOC.out k hk; subst e; rcases this with h | h; exact hbs h; omega
      · intro k hk
        rcases HLOC.out k hk with h | h
        · exact .inl h
        · exact .inr (by simp [World.setCell]; omega)
end Go.Proofs.Ytmlijnekidihbaa
