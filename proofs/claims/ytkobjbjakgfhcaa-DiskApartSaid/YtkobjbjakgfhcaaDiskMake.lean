/-
  A change is counted, and done; Make.
-/
import Derived.Test.YtkobjbjakgfhcaaDiskMake1
namespace Go.Proofs.Ytkobjbjakgfhcaa
open Go.RowKit

def PD.dn (d : PD) : Bool := decide ((d.calls : Int) + 1 = d.crash)
def PD.cnt (d : PD) : PD := { d with calls := d.calls + 1, down := d.dn }
def PD.isdo (d : PD) : Bool := !d.dn || d.done
def PD.err (d : PD) : Nat := if d.dn then 7 else 0
def PD.after (d : PD) (f : PD → PD) : PD := if d.isdo then f d.cnt else d.cnt

theorem out_of {g : Gh} {w : World} {p : Nat} {d : PD} (h : DiskAt g w p d) {k : Nat} (hk : w.heap.size ≤ k) : g.o k = .out := by
  cases ho : g.o k with
  | out => rfl
  | _ => exact absurd (h.olt k (by rw [ho]; simp)) (by omega)

theorem counted {g : Gh} {w : World} {p : Nat} {d : PD} (h : DiskAt g w p d) (hcl : d.calls < 10000) (k : Nat) (fst caps : Array Value) (hen : Enters Try.prog k) (f : PD → PD) (hf : (f d.cnt).down = d.dn)
    (hdo : d.isdo = true → ∀ w1, DiskAt g w1 p d.cnt → Kept (fun j => j < w.heap.size ∧ j ≠ p) w w1 → w1.heap.size = w.heap.size → Calls Try.prog k (fst ++ caps) w1 fun e w2 => e = .returned (.tuple #[]) ∧ ∃ g', DiskAt g' w2 p (f d.cnt) ∧ Step g g' w1 w2) :
    Calls Try.prog 49 #[.pointer (some ⟨p, 0, none⟩), .func (.func k) fst caps] w fun e w' => e = .returned (.int .i64 (d.err : Int)) ∧ ∃ g', DiskAt g' w' p (d.after f) ∧ Step g g' w w' := by
  have hb := h.blk
  unfold dCells at hb
  have hscal : ∀ w1, w1.heap[p]? = some (.cells #[.int .i64 d.room, .int .i64 d.crash, .bool d.done, .int .i64 ((d.calls : Int) + 1), .bool d.dn, g.fv, g.nv, g.sv, g.lv] 54 (0, 0)) → Kept (fun j => j < w.heap.size ∧ j ≠ p) w w1 → DiskAt g w1 p d.cnt ∧ Step g g w w1 := by
    intro w1 h1 hk
    refine ⟨h.scal (d' := d.cnt) hk ?_ rfl rfl rfl rfl, step_scal h hk⟩
    rw [h1]
    simp [dCells, PD.cnt]
  have hdo2 : d.isdo = true → ∀ w1, w1.heap[p]? = some (.cells #[.int .i64 d.room, .int .i64 d.crash, .bool d.done, .int .i64 ((d.calls : Int) + 1), .bool d.dn, g.fv, g.nv, g.sv, g.lv] 54 (0, 0)) → Kept (fun j => j < w.heap.size ∧ j ≠ p) w w1 → w1.heap.size = w.heap.size →
      Calls Try.prog k (fst ++ caps) w1 fun e w2 => e = .returned (.tuple #[]) ∧ w2.cell? ⟨p, 4, none⟩ = some (.bool d.dn) ∧ ∃ g', DiskAt g' w2 p (f d.cnt) ∧ Step g g' w w2 := by
    intro hi w1 h1 hk hs
    obtain ⟨hd1, hst1⟩ := hscal w1 h1 hk
    refine (hdo hi w1 hd1 hk hs).mono ?_
    rintro e w2 ⟨rfl, g', hd2, hst2⟩
    refine ⟨rfl, ?_, g', hd2, hst1.trans hst2⟩
    rw [blk_cell hd2.blk]
    simp [dCells, hf]
  by_cases hdn : (d.calls : Int) + 1 = d.crash
  · have hdn1 : d.dn = true := by simp [PD.dn, hdn]
    by_cases hdone : d.done = true
    · have hi : d.isdo = true := by simp [PD.isdo, hdone]
      have := hdo2 hi
      rw [hdn1, hdone] at this
      rw [hdone] at hb
      refine (count_last w p _ _ _ _ _ _ d.crash d.calls k fst caps hb (by omega) ⟨_, rfl⟩ hdn hen _ this).mono ?_
      rintro e w' ⟨rfl, g', r1, r2⟩
      exact ⟨by simp [PD.err, hdn1], g', by unfold PD.after; rw [if_pos hi]; exact r1, r2⟩
    · have hd0 : d.done = false := by simpa using hdone
      have hi : d.isdo = false := by simp [PD.isdo, hdn1, hd0]
      rw [hd0] at hb
      refine (count_stop w p _ _ _ _ _ _ d.crash d.calls k fst caps hb (by omega) ⟨_, rfl⟩ hdn).mono ?_
      rintro e w' ⟨rfl, r1, r2, _⟩
      rw [← hd0, ← hdn1] at r1
      obtain ⟨s1, s2⟩ := hscal w' r1 r2
      exact ⟨by simp [PD.err, hdn1], g, by unfold PD.after; rw [if_neg (by rw [hi]; simp)]; exact s1, s2⟩
  · have hdn1 : d.dn = false := by simp [PD.dn, hdn]
    have hi : d.isdo = true := by simp [PD.isdo, hdn1]
    have := hdo2 hi
    rw [hdn1] at this
    refine (count_up w p _ _ _ _ _ _ d.crash d.calls d.done k fst caps hb (by omega) ⟨_, rfl⟩ hdn hen _ this).mono ?_
    rintro e w' ⟨rfl, g', r1, r2⟩
    exact ⟨by simp [PD.err, hdn1], g', by unfold PD.after; rw [if_pos hi]; exact r1, r2⟩

/-- The file of a name is there, or not. -/
theorem find_at {g : Gh} {w : World} {p : Nat} {d : PD} (h : DiskAt g w p d) (s : ByteArray) (hs : s.size ≤ maxLen) (hid : ∀ x ∈ d.names, x.2 < d.files.length) :
    (dfind d.names s.data.toList = none ∧ Calls Try.prog 43 #[.pointer (some ⟨p, 0, none⟩), .string s] w fun e w' => e = .returned (.pointer none) ∧ w = w') ∨
    ∃ (id fb cap : Nat) (x : GF) (f : PF), dfind d.names s.data.toList = some id ∧ id < d.files.length ∧ g.fv = .slice (some ⟨fb, 0, none⟩) g.l.length cap ∧ g.l[id]? = some (x, f) ∧ d.files[id]? = some f ∧ g.o fb = .files ∧ fb < w.heap.size ∧ FileAt g.o w x f ∧
      w.cell? ⟨fb, id * 3, none⟩ = some x.vs ∧ w.cell? ⟨fb, id * 3 + 1, none⟩ = some x.vn ∧ w.cell? ⟨fb, id * 3 + 2, none⟩ = some x.vl ∧ (∀ j, w.frozen? ⟨fb, j, none⟩ = false) ∧
      Calls Try.prog 43 #[.pointer (some ⟨p, 0, none⟩), .string s] w fun e w' => e = .returned (.pointer (some ⟨fb, id * 3, none⟩)) ∧ w = w' := by
  have c6 : w.cell? ⟨p, 6, none⟩ = some g.nv := blk_cell h.blk
  have c5 : w.cell? ⟨p, 5, none⟩ = some g.fv := blk_cell h.blk
  cases hf : dfind d.names s.data.toList with
  | none => exact .inl ⟨rfl, find_none w p g.nv d.names s hs c6 h.nr hf⟩
  | some id =>
    right
    have hidl : id < d.files.length := by
      obtain ⟨x, hx, _, e⟩ := dfind_mem hf
      rw [← e]; exact hid x hx
    obtain ⟨fb, cap, x, hfv, hlt, hx, hfa, hof, hfb, e0, e1, e2, ef⟩ := h.file (List.getElem?_eq_getElem hidl)
    rw [hfv] at c5
    exact ⟨id, fb, cap, x, d.files[id], rfl, hidl, hfv, hx, List.getElem?_eq_getElem hidl, hof, hfb, hfa, e0, e1, e2, ef, find_some w p g.nv d.names s hs c6 h.nr id hf fb g.l.length cap c5 hlt⟩

def PD.make (d : PD) (n : List UInt8) : Nat × PD :=
  if d.down then (7, d) else if !nmOk n then (1, d) else if (dfind d.names n).isSome then (3, d) else (d.err, d.after (·.makes n))

theorem enters_make1 : Enters Try.prog 50 := enters_of Try.func50 (by kernel_rfl) rfl

theorem eqp_nil (w : World) (a : Addr) : (binOp .neq 84 (.pointer (some a)) (.pointer none)).run Try.prog w = .ok (.bool true) w := by kernel_rfl

theorem Small.cnt {d : PD} (h : Small d) (hc : d.calls + 1 < 10000) : Small d.cnt := ⟨h.files, h.loose, h.names, h.safe, hc, h.idn, h.ids, h.ch, h.fl, h.nml, h.sml⟩

set_option maxRecDepth 100000 in
set_option maxHeartbeats 2000000 in
theorem make_at {g : Gh} {w : World} {p : Nat} {d : PD} (h : DiskAt g w p d) (hsm : Small d) (hcl : d.calls + 1 < 10000) (s : ByteArray) (hs : s.size ≤ maxLen) :
    Calls Try.prog 18 #[.pointer (some ⟨p, 0, none⟩), .string s] w fun e w' => e = .returned (.int .i64 ((d.make s.data.toList).1 : Int)) ∧ ∃ g', DiskAt g' w' p (d.make s.data.toList).2 ∧ Step g g' w w' := by
  obtain ⟨w1, hw1⟩ : ∃ w1, w1 = (w.alloc (.cells #[.pointer (some ⟨p, 0, none⟩)] 28)).alloc (.cells #[.string s] 9) := ⟨_, rfl⟩
  have hbel : Below w.heap.size w w1 := by subst hw1; exact ((Below.refl _ _).alloc (Nat.le_refl _) _).alloc (by simp) _
  have hd1 : DiskAt g w1 p d := h.below hbel
  have hst1 : Step g g w w1 := Step.below hbel
  have hbd : w1.cell? ⟨w.heap.size, 0, none⟩ = some (.pointer (some ⟨p, 0, none⟩)) := by
    subst hw1
    rw [World.cell?_of_block (a := ⟨w.heap.size, 0, none⟩) (Below.heap_alloc _ _ _ (by simp)), blk_cell (heap_alloc_new w _)]
    rfl
  have hbn : w1.cell? ⟨w.heap.size + 1, 0, none⟩ = some (.string s) := by
    subst hw1
    rw [blk_cell (heap_new2 w _ _)]
    rfl
  have hwd : w1.heap.size = w.heap.size + 2 := by subst hw1; simp
  have c4 : w1.cell? ⟨p, 4, none⟩ = some (.bool d.down) := blk_cell hd1.blk
  have hnm := isName_any w1 s hs
  have Hw1 := Lib.hid hw1
  have hpw := blk_lt h.blk
  have hne : ¬ w.heap.size = p := by omega
  have hne' : ¬ w.heap.size + 1 = p := by omega
  cases hdn : d.down with
  | true =>
    rw [show d.make s.data.toList = (7, d) by unfold PD.make; simp [hdn]]
    dsimp only
    rw [hdn] at c4
    have HSH := Lib.hid (shut_any w1 p true c4)
    clear hnm hsm hdn c4 hbd hbn hwd h hw1
    go_enter Try.func18, Try.ntmps18
    go_wp2_with (go_at_call 47; rw [← Hw1.out]; refine HSH.out.mono ?_; rintro e w5 ⟨rfl, rfl⟩)
    go_ret
    exact ⟨rfl, g, hd1, hst1⟩
  | false =>
    rw [hdn] at c4
    have HSH := Lib.hid (shut_any w1 p false c4)
    cases hok : nmOk s.data.toList with
    | false =>
      rw [show d.make s.data.toList = (1, d) by unfold PD.make; simp [hdn, hok]]
      dsimp only
      rw [hok] at hnm
      have HNM := Lib.hid hnm
      have HOK := Lib.hid hok
      clear hnm hsm hdn c4 hwd h hw1 hok
      go_enter Try.func18, Try.ntmps18
      go_wp2_with (first | (go_at_call 47; rw [← Hw1.out]; refine HSH.out.mono ?_; rintro e w5 ⟨rfl, rfl⟩) | (go_at_call 48; refine HNM.out.mono ?_; rintro e w5 ⟨rfl, rfl⟩))
      go_ret
      exact ⟨rfl, g, hd1, hst1⟩
    | true =>
      rw [hok] at hnm
      have HNM := Lib.hid hnm
      have hlen : s.data.toList.length ≤ 40 := by
        unfold nmOk at hok
        simp only [Bool.and_eq_true, decide_eq_true_eq] at hok
        exact hok.2
      have HOK := Lib.hid hok
      clear hnm hok
      rcases find_at hd1 s hs hsm.idn with ⟨hf, hcall⟩ | ⟨id, fb, cap, x, f, hf, _, _, _, _, _, _, _, _, _, _, _, hcall⟩
      · rw [show d.make s.data.toList = (d.err, d.after (·.makes s.data.toList)) by unfold PD.make; simp [hdn, HOK.out, hf]]
        dsimp only
        have HC := Lib.hid hcall
        have HF := Lib.hid hf
        have hcn := counted (k := 50) (fst := #[]) (caps := #[.pointer (some ⟨w.heap.size, 0, none⟩), .pointer (some ⟨w.heap.size + 1, 0, none⟩)]) hd1 (by omega) enters_make1 (·.makes s.data.toList) rfl
          (fun _ w2 hd2 hk2 hs2 => make1_at hd2 (hsm.cnt hcl) s.data.toList (by omega) w.heap.size (w.heap.size + 1) ((hk2.cell (p := ⟨w.heap.size, 0, none⟩) ⟨by simp; omega, by simpa using hne⟩).trans hbd) ((hk2.cell (p := ⟨w.heap.size + 1, 0, none⟩) ⟨by simp; omega, by simpa using hne'⟩).trans hbn) (out_of h (Nat.le_refl _)) (out_of h (by omega)))
        have HCN := Lib.hid hcn
        clear hcall hf hcn hsm hdn c4 hwd h hw1
        go_enter Try.func18, Try.ntmps18
        go_wp2_with (first | (go_at_call 47; rw [← Hw1.out]; refine HSH.out.mono ?_; rintro e w5 ⟨rfl, rfl⟩) | (go_at_call 48; refine HNM.out.mono ?_; rintro e w5 ⟨rfl, rfl⟩) | (go_at_call 43; refine HC.out.mono ?_; rintro e w5 ⟨rfl, rfl⟩) | (go_at_call 49; (with_reducible refine HCN.out.mono ?_); rintro e w5 ⟨rfl, g5, hd5, hst5⟩))
        go_ret
        exact ⟨rfl, g5, hd5, hst1.trans hst5⟩
      · rw [show d.make s.data.toList = (3, d) by unfold PD.make; simp [hdn, HOK.out, hf]]
        dsimp only
        have HC := Lib.hid hcall
        have HF := Lib.hid hf
        have hq := eqp_nil
        clear hcall hf hsm hdn c4 hwd h hw1
        go_enter Try.func18, Try.ntmps18
        go_wp2_with (first | (go_at_call 47; rw [← Hw1.out]; refine HSH.out.mono ?_; rintro e w5 ⟨rfl, rfl⟩) | (go_at_call 48; refine HNM.out.mono ?_; rintro e w5 ⟨rfl, rfl⟩) | (go_at_call 43; refine HC.out.mono ?_; rintro e w5 ⟨rfl, rfl⟩))
        go_ret
        exact ⟨rfl, g, hd1, hst1⟩
end Go.Proofs.Ytkobjbjakgfhcaa
