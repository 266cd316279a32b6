/-
  The document's far store: take, at, Next, Objects.
-/
import Derived.Test.YtljjgpjaleekdaaGreatDoorRefFar
namespace Go.Proofs.YtljjgpjaleekdaaGreatDoor
open Go.RowKit

set_option maxRecDepth 100000 in
theorem rtake_none (w : World) (q : Nat) (lv : Value) (c : Nat) (a : Option Addr) (cap : Nat) (hc : c < 1000000000000) (h : w.heap[q]? = some (.cells #[lv, .slice a 0 cap, .int .i64 (c : Int)] 30 (0, 0))) :
    Calls Tryz.prog 48 #[.pointer (some ⟨q, 0, none⟩)] w fun e w' => e = .returned (.int .i64 0) ∧ w' = w.setCell ⟨q, 2, none⟩ (.int .i64 ((c : Int) + 1)) := by
  have c2 : w.cell? ⟨q, 2, none⟩ = some (.int .i64 (c : Int)) := blk_cell h
  have f2 : w.frozen? ⟨q, 2, none⟩ = false := blk_free h
  have h2 := blk_set (i := 2) h (.int .i64 ((c : Int) + 1))
  have c1 : (w.setCell ⟨q, 2, none⟩ (.int .i64 ((c : Int) + 1))).cell? ⟨q, 1, none⟩ = some (.slice a 0 cap) := blk_cell h2
  clear h h2
  go_enter Tryz.func48, Tryz.ntmps48
  go_wp2
  go_ret
  exact ⟨rfl, rfl⟩

set_option maxRecDepth 100000 in
theorem rtake_some (w : World) (q b off n cap c : Nat) (lv : Value) (x : Int) (hn : n + 1 ≤ cap) (hcap : cap ≤ maxLen) (hc : c < 1000000000000) (h : w.heap[q]? = some (.cells #[lv, .slice (some ⟨b, off, none⟩) (n + 1) cap, .int .i64 (c : Int)] 30 (0, 0))) (hbq : b ≠ q) (hx : w.cell? ⟨b, off, none⟩ = some (.int .i64 x)) :
    Calls Tryz.prog 48 #[.pointer (some ⟨q, 0, none⟩)] w fun e w' => e = .returned (.int .i64 x) ∧ ∃ off' cap', w' = (w.setCell ⟨q, 2, none⟩ (.int .i64 ((c : Int) + 1))).setCell ⟨q, 1, none⟩ (.slice (some ⟨b, off', none⟩) n cap') ∧ n ≤ cap' ∧ cap' ≤ maxLen ∧ (n = 0 ∨ off' = off + 1) := by
  have c2 : w.cell? ⟨q, 2, none⟩ = some (.int .i64 (c : Int)) := blk_cell h
  have f2 : w.frozen? ⟨q, 2, none⟩ = false := blk_free h
  have h2 := blk_set (i := 2) h (.int .i64 ((c : Int) + 1))
  have c1 : (w.setCell ⟨q, 2, none⟩ (.int .i64 ((c : Int) + 1))).cell? ⟨q, 1, none⟩ = some (.slice (some ⟨b, off, none⟩) (n + 1) cap) := blk_cell h2
  have f1 : (w.setCell ⟨q, 2, none⟩ (.int .i64 ((c : Int) + 1))).frozen? ⟨q, 1, none⟩ = false := blk_free h2
  have cx : (w.setCell ⟨q, 2, none⟩ (.int .i64 ((c : Int) + 1))).cell? ⟨b, off, none⟩ = some (.int .i64 x) := (World.cell?_setCell_far _ _ _ _ (by simpa using Ne.symm hbq)).trans hx
  clear h h2
  go_enter Tryz.func48, Tryz.ntmps48
  go_wp2
  · go_ret
    exact ⟨rfl, off, 0, rfl, by omega, by omega, .inl (by omega)⟩
  · go_ret
    exact ⟨rfl, off + 1, cap - 1, rfl, by omega, by omega, .inr rfl⟩

/-- What 'take' leaves. -/
theorem rtake_at {H : Nat → Prop} {w : World} {q : Nat} {f : FR} (h : RefAt H w q f) (hc : f.calls < 1000000000000) :
    Calls Tryz.prog 48 #[.pointer (some ⟨q, 0, none⟩)] w fun e w' => e = .returned (.int .i64 f.out) ∧ RefAt H w' q f.took ∧ Touch H w w' ∧ w'.heap.size = w.heap.size := by
  obtain ⟨⟨lv, nv, h1, h2, h3, h4, h5⟩, hq, lt⟩ := h
  have hk : ∀ w', Kept (fun k => k < w.heap.size ∧ k ≠ q) w w' → Touch H w w' := fun w' hk => Kept.mono hk fun k hk' => ⟨hk'.1, fun e => hk'.2 (e ▸ hq)⟩
  obtain ⟨a, cap, rfl, q1, q2, q3, q4⟩ := h3
  cases hl : f.left with
  | nil =>
    rw [hl] at h1
    refine (rtake_none w q lv f.calls a cap hc h1).mono ?_
    rintro e w' ⟨rfl, rfl⟩
    have hkk : Kept (fun k => k < w.heap.size ∧ k ≠ q) w (w.setCell ⟨q, 2, none⟩ (.int .i64 ((f.calls : Int) + 1))) := (Kept.refl _ _).setCell (fun h => h.2 rfl) _
    refine ⟨by simp [FR.out, hl], ⟨⟨lv, .slice a 0 cap, ?_, ?_, ?_, h4, fun k e => h5 k (by rw [hl]; exact e)⟩, hq, fun k hk' => by simpa [World.setCell] using lt k hk'⟩, hk _ hkk, by simp [World.setCell]⟩
    · exact (blk_set (i := 2) h1 _).trans (by simp [FR.took])
    · exact Rd.kept h2 hkk fun k e => ⟨lt k (h4 k e).1, (h4 k e).2⟩
    · show Rd _ 1 _ f.left.tail.length (f.left.tail.map (Value.int .i64))
      rw [hl] at q1 q4 ⊢
      refine ⟨a, cap, rfl, by simp, q2, by simp, ?_⟩
      rcases q4 with ⟨_, q4⟩ | ⟨b, off, rfl, q5, _⟩
      · exact .inl ⟨rfl, q4⟩
      · exact .inl ⟨rfl, fun e => by cases e⟩
  | cons x r =>
    rcases q4 with ⟨q4, _⟩ | ⟨b, off, rfl, q5, q6⟩
    · rw [hl] at q4; simp at q4
    · have hb := h5 b rfl
      have cx : w.cell? ⟨b, off, none⟩ = some (.int .i64 x) := by
        have := q6 0 (.int .i64 x) (by rw [hl]; rfl)
        simpa using this
      rw [hl] at h1 q1
      refine (rtake_some w q b off r.length cap f.calls lv x (by simpa using q1) q2 hc h1 hb.2 cx).mono ?_
      rintro e w' ⟨rfl, off', cap', rfl, r1, r2, r3⟩
      have hkk : Kept (fun k => k < w.heap.size ∧ k ≠ q) w ((w.setCell ⟨q, 2, none⟩ (.int .i64 ((f.calls : Int) + 1))).setCell ⟨q, 1, none⟩ (.slice (some ⟨b, off', none⟩) r.length cap')) := ((Kept.refl _ _).setCell (fun h => h.2 rfl) _).setCell (fun h => h.2 rfl) _
      refine ⟨by simp [FR.out, hl], ⟨⟨lv, .slice (some ⟨b, off', none⟩) r.length cap', ?_, ?_, ?_, h4, fun k e => by cases e; exact hb⟩, hq, fun k hk' => by simpa [World.setCell] using lt k hk'⟩, hk _ hkk, by simp [World.setCell]⟩
      · exact (blk_set (i := 1) (blk_set (i := 2) h1 _) _).trans (by simp [FR.took])
      · exact Rd.kept h2 hkk fun k e => ⟨lt k (h4 k e).1, (h4 k e).2⟩
      · show Rd _ 1 _ f.left.tail.length (f.left.tail.map (Value.int .i64))
        rw [hl]
        refine ⟨_, cap', rfl, r1, r2, by simp, ?_⟩
        rcases r3 with r3 | rfl
        · exact .inl ⟨r3, fun e => by cases e⟩
        · refine .inr ⟨b, off + 1, rfl, by simpa [World.setCell] using q5, fun j u hj => ?_⟩
          rw [hkk.cell (p := ⟨b, off + 1 + j, none⟩) ⟨lt b hb.1, hb.2⟩]
          have := q6 (j + 1) u (by rw [hl]; simpa using hj)
          rw [show off + 1 + j = off + (j + 1) by omega]
          exact this

/-- The place of a name; -1: none. -/
def nidx {β : Type} : List (List UInt8 × β) → List UInt8 → Option Nat
  | [], _ => none
  | x :: r, n => if x.1 == n then some 0 else (nidx r n).map (· + 1)

def nidxI {β : Type} (l : List (List UInt8 × β)) (n : List UInt8) : Int := match nidx l n with
  | none => -1
  | some i => (i : Int)

theorem nidx_step {β : Type} : ∀ (l : List (List UInt8 × β)) (n : List UInt8) (k : Nat) (x : List UInt8 × β), l[k]? = some x → (∀ j y, j < k → l[j]? = some y → (y.1 == n) = false) → (x.1 == n) = true → nidx l n = some k
  | [], _, k, x, h, _, _ => by simp at h
  | y :: r, n, 0, x, h, _, he => by
    simp at h
    subst h
    unfold nidx
    rw [if_pos he]
  | y :: r, n, k + 1, x, h, hno, he => by
    have h0 := hno 0 y (by omega) rfl
    unfold nidx
    rw [if_neg (by rw [h0]; simp), nidx_step r n k x (by simpa using h) (fun j z hj hz => hno (j + 1) z (by omega) (by simpa using hz)) he]
    rfl

theorem nidx_none {β : Type} : ∀ (l : List (List UInt8 × β)) (n : List UInt8), (∀ y ∈ l, (y.1 == n) = false) → nidx l n = none
  | [], _, _ => rfl
  | y :: r, n, h => by
    unfold nidx
    rw [if_neg (by rw [h y (by simp)]; simp), nidx_none r n fun z hz => h z (by simp [hz])]
    rfl

theorem fileCells_at {l : List (List UInt8 × List UInt8)} {k : Nat} {x : List UInt8 × List UInt8} (h : l[k]? = some x) : (fileCells l)[k * 3]? = some (.string (strB x.1)) ∧ (fileCells l)[k * 3 + 1]? = some (.string (strB x.2)) ∧ (fileCells l)[k * 3 + 2]? = some (.int .i64 0) := by
  induction l generalizing k with
  | nil => simp at h
  | cons y r ih =>
    have e : fileCells (y :: r) = [.string (strB y.1), .string (strB y.2), .int .i64 0] ++ fileCells r := by simp [fileCells]
    rw [e]
    cases k with
    | zero =>
      simp at h
      subst h
      exact ⟨rfl, rfl, rfl⟩
    | succ k =>
      obtain ⟨h1, h2, h3⟩ := ih (k := k) (by simpa using h)
      rw [show (k + 1) * 3 = k * 3 + 3 by omega]
      refine ⟨?_, ?_, ?_⟩
      · simpa [List.getElem?_append] using h1
      · rw [show k * 3 + 3 + 1 = k * 3 + 1 + 3 by omega]
        simpa [List.getElem?_append] using h2
      · rw [show k * 3 + 3 + 2 = k * 3 + 2 + 3 by omega]
        simpa [List.getElem?_append] using h3

set_option maxRecDepth 100000 in
set_option maxHeartbeats 2000000 in
set_option linter.unusedSimpArgs false in
theorem rat_any (w : World) (q : Nat) (lv : Value) (l : List (List UInt8 × List UInt8)) (s : ByteArray) (hl : l.length < 1000000) (hc : w.cell? ⟨q, 0, none⟩ = some lv) (h : Rd w 3 lv l.length (fileCells l)) :
    Calls Tryz.prog 50 #[.pointer (some ⟨q, 0, none⟩), .string s] w fun e w' => e = .returned (.int .i64 (nidxI l s.data.toList)) ∧ w = w' := by
  obtain ⟨a, cap, rfl, h1, h2, _, h4⟩ := h
  have HC := Lib.hid h4
  clear h4
  go_enter Tryz.func50, Tryz.ntmps50
  go_wp2
  go_loop [5] (fun i => ∃ k : Nat, k ≤ l.length ∧ i = .int .i64 k ∧ ∀ j y, j < k → l[j]? = some y → (y.1 == s.data.toList) = false) (fun i => l.length - (intOf i).toNat)
  case atStart => exact ⟨0, Nat.zero_le _, rfl, fun j y hj => by omega⟩
  case round =>
    obtain ⟨k, hk, rfl, hno⟩ := hrel
    have HN := Lib.hid hno
    clear hno
    by_cases hlt : k < l.length
    · obtain ⟨x, hx⟩ : ∃ x, l[k]? = some x := ⟨_, List.getElem?_eq_getElem hlt⟩
      rcases HC.out with ⟨h0, _⟩ | ⟨b, off, rfl, hb, hcell⟩
      · omega
      · have e1 := hcell (k * 3) _ (fileCells_at hx).1
        have HX := Lib.hid hx
        clear hx hcell
        by_cases he : x.1 = s.data.toList
        · have hsx : strB x.1 = s := by rw [he]
          rw [hsx] at e1
          have HR := Lib.hid (show nidxI l s.data.toList = (k : Int) by unfold nidxI; rw [nidx_step l _ k x HX.out HN.out (by simpa using he)])
          clear he hsx
          go_wp2
          go_ret
          exact ⟨by rw [HR.out]; rfl, rfl⟩
        · obtain ⟨t, ht⟩ : ∃ t, t = strB x.1 := ⟨_, rfl⟩
          rw [← ht] at e1
          have hts : ¬ t = s := fun e => he (by rw [← e, ht])
          have htl : ¬ t.toList = s.toList := fun e => hts (by rw [Lib.toList_data, Lib.toList_data] at e; exact ByteArray.ext (Array.toList_inj.1 e))
          have htb : (t.toList == s.toList) = false := by simpa using htl
          have HE := Lib.hid he
          clear he ht
          go_wp2
          all_goals
            go_round
            case rel => exact ⟨k + 1, by omega, by go_num, fun j y hj hy => by
              by_cases e : j = k
              · subst e
                have := HX.out.symm.trans hy
                cases this
                simpa using HE.out
              · exact HN.out j y (by omega) hy⟩
            case measure => simp [intOf]; omega
    · have HR := Lib.hid (show nidxI l s.data.toList = -1 by
        unfold nidxI
        rw [nidx_none l _ fun y hy => by
          obtain ⟨j, hj⟩ := List.getElem?_of_mem hy
          exact HN.out j y (by have := (List.getElem?_eq_some_iff.1 hj).1; omega) hj])
      go_wp2
      go_ret
      exact ⟨by rw [HR.out]; rfl, rfl⟩
end Go.Proofs.YtljjgpjaleekdaaGreatDoor
