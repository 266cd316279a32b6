/-
  What the statements on disks share: sizes of files with few writes, calls of a disk that does not crash.
-/
import Derived.Test.YtkobjbjakgfhcaaDiskOn2
import Derived.Test.YtkobjbjakgfhcaaDiskNames
import Derived.Test.YtkobjbjakgfhcaaDiskFull
import Derived.OpenShut
namespace Go.Proofs.Ytkobjbjakgfhcaa
open Go.RowKit

theorem kept_len : ∀ (l : List (Nat × List UInt8)) (left : Nat) (b : List UInt8), WOk b l → (kept l left b).length ≤ b.length + manyL l
  | [], _, b, _ => by simp [kept]
  | p :: r, left, b, h => by
    obtain ⟨h1, h2⟩ := h
    by_cases h0 : left = 0
    · rw [h0, kept_zero]; omega
    · rw [kept_cons p r left b h0]
      have key : ∀ q : List UInt8, q.length ≤ p.2.length → (wr b p.1 q).length ≤ b.length + p.2.length := by
        intro q hq
        rw [wr_length b q p.1 h1]; omega
      have hm : manyL (p :: r) = p.2.length + manyL r := by simp [manyL]
      by_cases hl : p.2.length ≤ left
      · rw [List.take_of_length_le hl]
        have := kept_len r (left - p.2.length) (wr b p.1 p.2) h2
        have := key p.2 (Nat.le_refl _)
        omega
      · rw [show left - p.2.length = 0 by omega, kept_zero]
        have := key (p.2.take left) (by rw [List.length_take]; omega)
        omega

theorem fok_of {f : PF} (h1 : f.safe.length + manyL f.loose < 1000000) (h2 : f.now.length < 1000000) (h3 : f.loose.length < 10000) (h4 : WOk f.safe f.loose) : FOk f :=
  ⟨by omega, by omega, h3, by omega, h4, fun left => by have := kept_len f.loose left f.safe h4; omega⟩

theorem wok_append : ∀ (l : List (Nat × List UInt8)) (b : List UInt8) (p : Nat × List UInt8), WOk b l → p.1 ≤ (l.foldl (fun b p => wr b p.1 p.2) b).length → WOk b (l ++ [p])
  | [], _, _, _, h => ⟨h, trivial⟩
  | _ :: r, _, p, h, hp => ⟨h.1, wok_append r _ p h.2 hp⟩

/-- A write from a place on, of a disk that is up and does not crash. -/
theorem write_in {d : PD} {n : List UInt8} {id u : Nat} {a : Nat} {l : List UInt8} (hd : d.down = false) (hc : d.crash = 0) (hf : dfind d.names n = some id) (hu : d.used = u) (ha : a ≤ (d.file id).now.length) (hl : a + l.length ≤ 1048576) (hr : (u : Int) + max 0 ((a : Int) + (l.length : Int) - ((d.file id).now.length : Int)) ≤ d.room) :
    d.write n (a : Int) l = (0, { d with calls := d.calls + 1, down := false, files := d.files.set id ((d.file id).wrote a l) }) := by
  unfold PD.write
  rw [hf, hu, hd, if_neg (by simp)]
  dsimp only
  rw [if_neg (by omega), if_neg (by omega), if_neg (by omega), err_none hc, after_none hc]
  rfl
theorem write_out {d : PD} {n : List UInt8} {id : Nat} {a : Int} {l : List UInt8} (hd : d.down = false) (hf : dfind d.names n = some id) (ha : a < 0 ∨ ((d.file id).now.length : Int) < a) : d.write n a l = (1, d) := by
  unfold PD.write
  rw [hf, hd, if_neg (by simp)]
  dsimp only
  rw [if_pos ha]

theorem on_write_new {W w w2 : World} {p : Nat} {d : PD} (h : On W w p d) (hb : Below w.heap.size w w2) (hsm : Small d) (hcl : d.calls + 1 < 10000) (s : ByteArray) (hs : s.size ≤ maxLen) (a : Int) (v : Value) (l : List UInt8) (hrd : RdB w2 v l) (hll : l.length < 1000000000000) (ov : l ≠ [] → ∀ k, v.ownBlock = some k → w.heap.size ≤ k ∨ k < W.heap.size) (r : Nat) (d' : PD) (he : d.write s.data.toList a l = (r, d')) :
    Calls Try.prog 19 #[.pointer (some ⟨p, 0, none⟩), .string s, .int .i64 a, v] w2 fun e w' => e = .returned (.int .i64 (r : Int)) ∧ On W w' p d' := by
  obtain ⟨g, h1, h2, h3⟩ := h
  have hm := write_at (h1.below hb) hsm hcl s hs a v l hrd hll ?_
  · rw [he] at hm
    exact on_wrote (h2.trans (hb.mono h2.size)) h3 hm
  · intro hne k e
    cases ho : g.o k with
    | out => rfl
    | _ =>
      have hF : g.F k := by unfold Gh.F; rw [ho]; simp
      have := h1.olt k hF
      have := h3 k hF
      rcases ov hne k e with h | h <;> omega

/-- One file 'x'. -/
def x1 (R : Int) (c : Nat) (f : PF) (sf : DB) (ls : List PC) : PD := ⟨R, 0, false, c, false, [f], [([120], 0)], sf, ls⟩
def mkx : PC := ⟨0, [], [120], 0⟩
def sfx (b : Bool) : DB := if b then [([120], 0)] else []
def lsx (b : Bool) : List PC := if b then [mkx] else []
theorem mkx_ok : ChOk mkx := ⟨by decide, by decide, by decide, by decide⟩
theorem x1_small (R : Int) (c : Nat) (f : PF) (b1 b2 : Bool) (hc : c < 100) (hf : FOk f) : Small (x1 R c f (sfx b1) (lsx b2)) := by
  refine ⟨by simp [x1], by cases b2 <;> simp [x1, lsx], by simp [x1], by cases b1 <;> simp [x1, sfx], by simp [x1]; omega, by simp [x1], by cases b1 <;> simp [x1, sfx], ?_, fun g hg => by simp [x1] at hg; subst hg; exact hf, by simp [x1], by cases b1 <;> simp [x1, sfx]⟩
  intro c hc
  cases b2
  · simp [x1, lsx] at hc
  · simp [x1, lsx] at hc; subst hc; exact mkx_ok
theorem x1_make (R : Int) : (PD.new R 0 false).make [120] = (0, x1 R 1 PF.new (sfx false) (lsx true)) := by kernel_rfl
theorem x1_used (R : Int) (c : Nat) (f : PF) (sf : DB) (ls : List PC) : (x1 R c f sf ls).used = f.now.length := by show f.now.length + 0 = _; omega
theorem x1_find (R : Int) (c : Nat) (f : PF) (sf : DB) (ls : List PC) : dfind (x1 R c f sf ls).names [120] = some 0 := by kernel_rfl
theorem x1_write (R : Int) (c : Nat) (f : PF) (sf : DB) (ls : List PC) (a : Nat) (l : List UInt8) (ha : a ≤ f.now.length) (hl : a + l.length ≤ 1048576) (hr : (f.now.length : Int) + (l.length : Int) ≤ R) : (x1 R c f sf ls).write [120] (a : Int) l = (0, x1 R (c + 1) (f.wrote a l) sf ls) := by
  rw [write_in (id := 0) (u := f.now.length) rfl rfl (x1_find ..) (x1_used ..) ha hl (by show (f.now.length : Int) + max 0 ((a : Int) + (l.length : Int) - (f.now.length : Int)) ≤ R; omega)]
  rfl
theorem x1_read (R : Int) (c : Nat) (f : PF) (sf : DB) (ls : List PC) (a n : Int) : (x1 R c f sf ls).read [120] a n = if a < 0 ∨ (f.now.length : Int) < a ∨ n < 0 then ([], 1) else ((f.now.drop a.toNat).take n.toNat, 0) := by
  unfold PD.read
  rw [x1_find]
  rfl
theorem x1_size (R : Int) (c : Nat) (f : PF) (sf : DB) (ls : List PC) : (x1 R c f sf ls).size [120] = (f.now.length, true) := by
  unfold PD.size
  rw [x1_find]
  rfl
theorem rd_const1 (w : World) (c : UInt8) : RdB (w.alloc (.cells #[bv c] 5 (1, 2))) (.slice (some ⟨w.heap.size, 0, none⟩) 1 1) [c] :=
  ⟨_, 1, rfl, Nat.le_refl _, by unfold maxLen; omega, rfl, .inr ⟨w.heap.size, 0, rfl, by simp, fun j u hj => by rw [Nat.zero_add, World.cell?_alloc_mark]; simpa using hj⟩⟩
end Go.Proofs.Ytkobjbjakgfhcaa
