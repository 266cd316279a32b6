/-
  What the statement KeyBack asks of keys and lists of bytes.
-/
import Derived.Test.YtmeddhjhdjgagaaKeyPut
import Derived.Test.YtmeddhjhdjgagaaKeyGet
import Derived.Test.YtmeddhjhdjgagaaNumBackMath
namespace Go.Proofs.Ytmeddhjhdjgagaa

/-- The bytes of a key tell it, whatever stands behind. -/
theorem keyAt_back {u : List UInt8} {s k : Int} (h : mayB u s k = true) (behind : List UInt8) : keyAt (putK u s k ++ behind) 0 = some ((u, s, k), (putK u s k).length) := by
  obtain ⟨h1, h2, h3, h4⟩ := mayB_true h
  have e : putK u s k = putT u ++ putL (2 * s + k - 1).toNat := by unfold putK; rw [h]; rfl
  have ht := textAt_back [] (putL (2 * s + k - 1).toNat ++ behind) u (by omega)
  have hg := getAt_back (putT u) behind (2 * s + k - 1).toNat (by omega)
  have e2 : [] ++ putT u ++ (putL (2 * s + k - 1).toNat ++ behind) = putK u s k ++ behind := by rw [e]; simp
  have e3 : putT u ++ putL (2 * s + k - 1).toNat ++ behind = putK u s k ++ behind := by rw [e]
  rw [e2] at ht
  rw [e3] at hg
  simp only [List.length_nil, Nat.zero_add, Int.ofNat_zero] at ht
  have q1 : ((2 * s + k - 1).toNat : Int) / 2 = s := by omega
  have q2 : ((2 * s + k - 1).toNat : Int) % 2 + 1 = k := by omega
  have := keyAt_some ht hg (by rw [q1, q2]; exact h)
  rw [this, q1, q2, e, List.length_append]

/-- Of two that differ the bytes differ. -/
theorem putK_inj {u o : List UInt8} {s k : Int} (h : mayB u s k = true) (h' : mayB o s k = true) : putK o s k = putK u s k ↔ o = u := by
  constructor
  · intro e
    have h1 := keyAt_back h []
    have h2 := keyAt_back h' []
    rw [e, h1] at h2
    simp only [Option.some.injEq, Prod.mk.injEq] at h2
    exact h2.1.1.symm
  · rintro rfl; rfl

theorem putK_length {u : List UInt8} {s k : Int} (h : mayB u s k = true) : (putK u s k).length ≤ 100 := by
  obtain ⟨h1, h2, h3, h4⟩ := mayB_true h
  have e : putK u s k = putT u ++ putL (2 * s + k - 1).toNat := by unfold putK; rw [h]; rfl
  have := putL_length u.length (by omega)
  have := putL_length (2 * s + k - 1).toNat (by omega)
  rw [e, putT]
  simp only [List.length_append]
  omega
end Go.Proofs.Ytmeddhjhdjgagaa
