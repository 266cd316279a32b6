/-
  A disk of a statement's own: what the calls do, told of the world that the statement began in.
-/
import Derived.Test.YtkobjbjakgfhcaaDiskNils
import Derived.Test.YtkobjbjakgfhcaaDiskGone
namespace Go.Proofs.Ytkobjbjakgfhcaa
open Go.RowKit

/-- The disk 'd' lies behind all that 'W' has, and what 'W' has is as it was. -/
def On (W w : World) (p : Nat) (d : PD) : Prop := ∃ g, DiskAt g w p d ∧ Below W.heap.size W w ∧ ∀ k, g.F k → W.heap.size ≤ k

theorem On.below {W w : World} {p : Nat} {d : PD} (h : On W w p d) : Below W.heap.size W w := by obtain ⟨g, _, h2, _⟩ := h; exact h2

theorem on_step {W w w' : World} {p : Nat} {d' : PD} {g g' : Gh} (hb : Below W.heap.size W w) (hF : ∀ k, g.F k → W.heap.size ≤ k) (hd : DiskAt g' w' p d') (hs : Step g g' w w') : On W w' p d' := by
  refine ⟨g', hd, hb.trans (Kept.below hs.touch fun k hk => ⟨?_, fun e => ?_⟩), fun k hk => ?_⟩
  · exact Nat.lt_of_lt_of_le hk hb.size
  · have := hF k e; omega
  · rcases hs.new k hk with h1 | h1
    · exact hF k h1
    · have := hb.size; omega

theorem on_new (W w : World) (hb : Below W.heap.size W w) (room crash names : Int) (done : Bool) (kv : Value) :
    Calls Try.prog 7 #[.agg #[.int .i64 room, .int .i64 crash, .bool done, kv, .int .i64 names]] w fun e w' => ∃ p, e = .returned (.pointer (some ⟨p, 0, none⟩)) ∧ On W w' p (PD.new room crash done) := by
  refine (new_any w room crash names done kv).mono ?_
  rintro e w' ⟨p, rfl, hp, hd, hb2⟩
  refine ⟨p, rfl, Gh.new p, hd, hb.trans (Kept.below (Kept.of hb2 (R := fun k => k < w.heap.size) fun _ h => h) fun k hk => Nat.lt_of_lt_of_le hk hb.size), fun k hk => ?_⟩
  by_cases e : k = p
  · have := hb.size; omega
  · exact absurd (show (if k = p then Role.disk else .out) = .out by rw [if_neg e]) hk

theorem on_make {W w : World} {p : Nat} {d : PD} (h : On W w p d) (hsm : Small d) (hcl : d.calls + 1 < 10000) (s : ByteArray) (hs : s.size ≤ maxLen) (r : Nat) (d' : PD) (he : d.make s.data.toList = (r, d')) :
    Calls Try.prog 18 #[.pointer (some ⟨p, 0, none⟩), .string s] w fun e w' => e = .returned (.int .i64 (r : Int)) ∧ On W w' p d' := by
  obtain ⟨g, h1, h2, h3⟩ := h
  have hm := make_at h1 hsm hcl s hs
  rw [he] at hm
  refine hm.mono ?_
  rintro e w' ⟨rfl, g', k1, k2⟩
  exact ⟨rfl, on_step h2 h3 k1 k2⟩

theorem on_gone {W w : World} {p : Nat} {d : PD} (h : On W w p d) (hsm : Small d) (hcl : d.calls + 1 < 10000) (s : ByteArray) (hs : s.size ≤ maxLen) (r : Nat) (d' : PD) (he : d.gone s.data.toList = (r, d')) :
    Calls Try.prog 34 #[.pointer (some ⟨p, 0, none⟩), .string s] w fun e w' => e = .returned (.int .i64 (r : Int)) ∧ On W w' p d' := by
  obtain ⟨g, h1, h2, h3⟩ := h
  have hm := gone_at h1 hsm hcl s hs
  rw [he] at hm
  refine hm.mono ?_
  rintro e w' ⟨rfl, g', k1, k2⟩
  exact ⟨rfl, on_step h2 h3 k1 k2⟩

theorem on_write {W w : World} {p : Nat} {d : PD} (h : On W w p d) (hsm : Small d) (hcl : d.calls + 1 < 10000) (s : ByteArray) (hs : s.size ≤ maxLen) (a : Int) (v : Value) (l : List UInt8) (hrd : RdB W v l) (hll : l.length < 1000000000000) (r : Nat) (d' : PD) (he : d.write s.data.toList a l = (r, d')) :
    Calls Try.prog 19 #[.pointer (some ⟨p, 0, none⟩), .string s, .int .i64 a, v] w fun e w' => e = .returned (.int .i64 (r : Int)) ∧ On W w' p d' := by
  obtain ⟨g, h1, h2, h3⟩ := h
  have hm := write_at h1 hsm hcl s hs a v l (hrd.below h2 (Nat.le_refl _)) hll ?_
  · rw [he] at hm
    refine hm.mono ?_
    rintro e w' ⟨rfl, g', k1, k2⟩
    exact ⟨rfl, on_step h2 h3 k1 k2⟩
  · intro hne k e
    have hk : k < W.heap.size := by
      obtain ⟨b, off, cap, hv, _, _, hb, _⟩ := hrd.cells hne
      rw [hv] at e
      cases e
      exact hb
    cases ho : g.o k with
    | out => rfl
    | _ => exact absurd (h3 k (by unfold Gh.F; rw [ho]; simp)) (by omega)
end Go.Proofs.Ytkobjbjakgfhcaa
