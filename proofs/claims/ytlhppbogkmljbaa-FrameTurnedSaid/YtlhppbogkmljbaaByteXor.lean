/-
  Bytes put one over another, as the walk spells it; where a slice of the call's own lies: plain facts.
-/
import Derived.Test.YtlhppbogkmljbaaSumTurn
import Derived.Test.YtlhppbogkmljbaaWords
namespace Go.Proofs.Ytlhppbogkmljbaa
open Go.RowKit

theorem ofInt_u8 (a : Nat) (ha : a < 256) : (BitVec.ofInt 8 (a : Int)).toNat = a := by
  rw [BitVec.ofInt_natCast, BitVec.toNat_ofNat]
  exact Nat.mod_eq_of_lt (by omega)

theorem xor_u8 (a b : UInt8) : bits .xor .u8 (a.toNat : Int) (b.toNat : Int) = ((a ^^^ b).toNat : Int) := by
  have ha := a.toNat_lt
  have hb := b.toNat_lt
  have hx : a.toNat ^^^ b.toNat < 2 ^ 8 := Nat.xor_lt_two_pow (by omega) (by omega)
  show IntKind.u8.wrap ((BitVec.ofInt 8 (a.toNat : Int) ^^^ BitVec.ofInt 8 (b.toNat : Int)).toNat : Int) = _
  rw [BitVec.toNat_xor, ofInt_u8 _ (by omega), ofInt_u8 _ (by omega), IntKind.wrap_u8, UInt8.toNat_xor]
  omega

/-- A slice of the call's own that is not empty: where it lies. -/
theorem OwnB.place {w : World} {B e : Nat} {v : Value} {l : List UInt8} (h : OwnB w B e v l) (hne : l ≠ []) :
    ∃ g cap, v = .slice (some ⟨g, 0, none⟩) l.length cap ∧ B ≤ g ∧ l.length ≤ cap ∧ cap ≤ maxLen := by
  obtain ⟨h0, h1⟩ := h
  rcases h1 with ⟨rfl, h2⟩ | ⟨g, cap, cur, rfl, hB, hg, hn, hm, hs, htake⟩
  · exact absurd (List.eq_nil_of_length_eq_zero (by simpa using h2)) hne
  · exact ⟨g, cap, rfl, hB, hn, hm⟩
end Go.Proofs.Ytlhppbogkmljbaa
