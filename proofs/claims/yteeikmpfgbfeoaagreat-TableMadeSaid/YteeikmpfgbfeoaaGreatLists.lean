/-
  Slices of slices of bytes: what reads as a list of lists of bytes; one of the call's own.
-/
import Derived.Test.YteeikmpfgbfeoaaGreatMoves
import Derived.Test.YteeikmpfgbfeoaaGreatWords
namespace Go.Proofs.YteeikmpfgbfeoaaGreat
open Go.RowKit

/-- The slice 'v' of slices reads as the lists of bytes 'ls'. -/
def RdLL (w : World) (v : Value) (ls : List (List UInt8)) : Prop := ∃ cs : List Value, Rd w 1 v ls.length cs ∧ ∀ (i : Nat) (c : Value) (l : List UInt8), cs[i]? = some c → ls[i]? = some l → RdB w c l

theorem RdLL.below {w w' : World} {v : Value} {ls : List (List UInt8)} (h : RdLL w v ls) {B : Nat} (hb : Below B w w') (hB : w.heap.size ≤ B) : RdLL w' v ls := by
  obtain ⟨cs, h1, h2⟩ := h
  exact ⟨cs, h1.below hb hB, fun i c l hc hl => (h2 i c l hc hl).below hb hB⟩

theorem RdLL.form {w : World} {v : Value} {ls : List (List UInt8)} (h : RdLL w v ls) : ∃ a cap, v = .slice a ls.length cap ∧ ls.length ≤ cap ∧ cap ≤ maxLen := by
  obtain ⟨cs, ⟨a, cap, rfl, h1, h2, _⟩, _⟩ := h
  exact ⟨a, cap, rfl, h1, h2⟩

/-- One of them. -/
theorem RdLL.at_ {w : World} {la : Option Addr} {lc : Nat} {ls : List (List UInt8)} (h : RdLL w (.slice la ls.length lc) ls) {i : Nat} {l : List UInt8} (hl : ls[i]? = some l) :
    ∃ b o a cap, la = some ⟨b, o, none⟩ ∧ w.cell? ⟨b, o + i, none⟩ = some (.slice a l.length cap) ∧ RdB w (.slice a l.length cap) l ∧ b < w.heap.size := by
  obtain ⟨cs, ⟨a, cap, hv, h1, h2, h3, h4⟩, h5⟩ := h
  cases hv
  have hi : i < ls.length := (List.getElem?_eq_some_iff.1 hl).1
  obtain ⟨c, hc⟩ : ∃ c, cs[i]? = some c := ⟨_, List.getElem?_eq_getElem (by omega)⟩
  have hr := h5 i c l hc hl
  obtain ⟨a', cap', hcv, _, _⟩ := hr.form
  rcases h4 with ⟨h4, _⟩ | ⟨b, o, rfl, hb, hcell⟩
  · omega
  · exact ⟨b, o, a', cap', rfl, by rw [hcell i c hc, hcv], hcv ▸ hr, hb⟩

/-- A slice of slices of the call's own: what it holds lies in memory of the call's own, too, and in none of its blocks. -/
def OwnLL (w : World) (B e e' : Nat) (v : Value) (ls : List (List UInt8)) : Prop :=
  ∃ cs : List Value, w.ownsRow B e' 1 v ls.length cs ∧ ∀ (i : Nat) (c : Value) (l : List UInt8), cs[i]? = some c → ls[i]? = some l → OwnB w B e c l ∧ ∀ k, c.ownBlock = some k → v.ownBlock ≠ some k

theorem OwnLL.nil (w : World) (B e e' : Nat) : OwnLL w B e e' (.slice none 0 0) [] := ⟨[], World.ownsRow_nil _ _ _ _, fun i c l h => by simp at h⟩

theorem OwnLL.read {w : World} {B e e' : Nat} {v : Value} {ls : List (List UInt8)} (h : OwnLL w B e e' v ls) : RdLL w v ls := by
  obtain ⟨cs, h1, h2⟩ := h
  exact ⟨cs, rd_of_own h1, fun i c l hc hl => (h2 i c l hc hl).1.read⟩

theorem OwnLL.below {w w' : World} {B B' e e' : Nat} {v : Value} {ls : List (List UInt8)} (h : OwnLL w B e e' v ls) (hb : Below B' w w') (hB : w.heap.size ≤ B') : OwnLL w' B e e' v ls := by
  obtain ⟨cs, h1, h2⟩ := h
  refine ⟨cs, own_kept h1 (R := fun k => k < B') (Kept.of hb fun _ h => h) fun k hk => ?_, fun i c l hc hl => ⟨(h2 i c l hc hl).1.below hb hB, (h2 i c l hc hl).2⟩⟩
  have := own_lt h1 k hk
  omega

/-- One more, told by a call: 'append(s, x)' of a slice that lies in none of its blocks. -/
theorem OwnLL.more {w w' : World} {B e e' : Nat} {v v' c : Value} {ls : List (List UInt8)} {l : List UInt8} {cs : List Value} (h1 : w.ownsRow B e' 1 v ls.length cs)
    (h2 : ∀ (i : Nat) (c : Value) (l : List UInt8), cs[i]? = some c → ls[i]? = some l → OwnB w B e c l ∧ ∀ k, c.ownBlock = some k → v.ownBlock ≠ some k)
    (hc : OwnB w B e c l) (hcv : ∀ k, c.ownBlock = some k → v.ownBlock ≠ some k) (hB : B ≤ w.heap.size) (hown : w'.ownsRow 0 e' 1 v' (ls.length + 1) (cs ++ [c])) (hm : Moves w w' v v') : OwnLL w' B e e' v' (ls ++ [l]) := by
  have hlen : cs.length = ls.length := by have := h1.1; omega
  have hv' : ∀ k, v'.ownBlock = some k → v.ownBlock = some k ∨ w.heap.size ≤ k := fun k hk => (hm.at_ k hk).imp id fun h => h.1
  have keep : ∀ (c : Value) (l : List UInt8), OwnB w B e c l → (∀ k, c.ownBlock = some k → v.ownBlock ≠ some k) → OwnB w' B e c l ∧ ∀ k, c.ownBlock = some k → v'.ownBlock ≠ some k := by
    intro c l ho hne
    refine ⟨own_kept ho (hm.kept (R := fun k => k < w.heap.size ∧ v.ownBlock ≠ some k) fun k h => h) fun k hk => ⟨own_lt ho k hk, hne k hk⟩, fun k hk h => ?_⟩
    rcases hv' k h with h | h
    · exact hne k hk h
    · have := own_lt ho k hk
      omega
  have hbase : w'.ownsRow B e' 1 v' (ls.length + 1) (cs ++ [c]) := own_base hown fun k hk => by
    rcases hv' k hk with h | h
    · exact (World.ownsRow.lt h1 k h).1
    · omega
  refine ⟨cs ++ [c], by rw [List.length_append]; exact hbase, fun i d m hd hm' => ?_⟩
  · rcases Nat.lt_or_ge i cs.length with hi | hi
    · rw [List.getElem?_append_left hi] at hd
      rw [List.getElem?_append_left (by omega)] at hm'
      exact keep d m (h2 i d m hd hm').1 (h2 i d m hd hm').2
    · rw [List.getElem?_append_right hi] at hd
      rw [List.getElem?_append_right (by omega), ← hlen] at hm'
      obtain ⟨hi0, hd0⟩ := List.getElem?_eq_some_iff.1 hd
      have hz : i - cs.length = 0 := by simpa using hi0
      rw [hz] at hd hm'
      cases hd
      cases hm'
      exact keep c l hc hcv

/-- One more: what a call told, put behind. -/
theorem OwnLL.push {w0 w1 : World} {B e e' e2 : Nat} {v c : Value} {ls : List (List UInt8)} {l : List UInt8} (h : OwnLL w0 B e e' v ls) (hb : Below w0.heap.size w0 w1) (hB : B ≤ w0.heap.size) (hc : OwnB w1 w0.heap.size e c l) :
    ∃ cs : List Value, (w1.alloc (.cells #[c] e2)).ownsRow 0 e' 1 v ls.length cs ∧ Rd (w1.alloc (.cells #[c] e2)) 1 (.slice (some ⟨w1.heap.size, 0, none⟩) 1 1) 1 [c] ∧
      ∀ v' w', w'.ownsRow 0 e' 1 v' (ls.length + 1) (cs ++ [c]) → Moves (w1.alloc (.cells #[c] e2)) w' v v' → OwnLL w' B e e' v' (ls ++ [l]) ∧ Below B w0 w' := by
  obtain ⟨cs, h1, h2⟩ := h
  have hal : Below w1.heap.size w1 (w1.alloc (.cells #[c] e2)) := (Below.refl _ _).alloc (Nat.le_refl _) _
  have hb2 : Below w0.heap.size w0 (w1.alloc (.cells #[c] e2)) := hb.trans (hal.mono hb.size)
  have hown : ∀ {B' : Nat}, B' ≤ B → (w1.alloc (.cells #[c] e2)).ownsRow B' e' 1 v ls.length cs := fun {B'} hB' =>
    own_base (own_kept h1 (R := fun k => k < w0.heap.size) (Kept.of hb2 fun _ h => h) fun k hk => own_lt h1 k hk) fun k hk => Nat.le_trans hB' (World.ownsRow.lt h1 k hk).1
  refine ⟨cs, hown (Nat.zero_le _), ⟨_, 1, rfl, Nat.le_refl _, by unfold maxLen; omega, rfl, .inr ⟨w1.heap.size, 0, rfl, by simp, fun j u hj => ?_⟩⟩, fun v' w' h3 h4 => ⟨?_, ?_⟩⟩
  · rw [Nat.zero_add, blk_cell (heap_alloc_new w1 (.cells #[c] e2))]
    simpa using hj
  · refine OwnLL.more (hown (Nat.le_refl _)) (fun i d m hd hm => ⟨(h2 i d m hd hm).1.below hb2 (Nat.le_refl _), (h2 i d m hd hm).2⟩) (own_base (OwnB.below hc hal (Nat.le_refl _)) fun k hk => Nat.le_trans hB (World.ownsRow.lt hc k hk).1) (fun k hk hv => ?_) (Nat.le_trans hB hb2.size) h3 h4
    have := (World.ownsRow.lt hc k hk).1
    have := own_lt h1 k hv
    omega
  · exact (hb2.mono hB).grown h4.grown (Nat.le_trans hB hb2.size) fun k hk => (World.ownsRow.lt h1 k hk).1
end Go.Proofs.YteeikmpfgbfeoaaGreat
