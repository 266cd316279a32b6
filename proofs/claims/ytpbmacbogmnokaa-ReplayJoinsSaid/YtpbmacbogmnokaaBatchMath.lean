/-
  What bytes tell of batches: plain facts.
-/
import Derived.Test.YtpbmacbogmnokaaBatchPut
namespace Go.Proofs.Ytpbmacbogmnokaa
open Go.RowKit

/-- The text at a place: its bytes stand there. -/
theorem textAt_stands {l : List UInt8} {p k : Nat} {s : List UInt8} (h : textAt l (p : Int) = some (s, k)) : l.drop p = putT s ++ l.drop k ∧ p < k ∧ k ≤ l.length := by
  unfold textAt at h
  obtain ⟨⟨n, a⟩, hg, hb⟩ := Option.bind_eq_some_iff.1 h
  obtain ⟨p', hp, h1, h2, _, h3, h4⟩ := getAt_some hg
  obtain rfl : p = p' := by omega
  simp only at hb
  split at hb
  · rename_i hn
    simp only [Option.some.injEq, Prod.mk.injEq] at hb
    obtain ⟨rfl, rfl⟩ := hb
    have hlen : ((l.drop a).take n).length = n := by rw [List.length_take, List.length_drop]; omega
    refine ⟨?_, by omega, by omega⟩
    unfold putT
    rw [hlen, h3, List.append_assoc]
    congr 1
    rw [← List.drop_drop, List.take_append_drop]
  · cases hb

/-- A text that stands there is told. -/
theorem textAt_tells (ahead behind s : List UInt8) (hs : s.length ≤ 1000) : textAt (ahead ++ putT s ++ behind) (ahead.length : Int) = some (s, ahead.length + (putT s).length) := by
  have hg : getAt (ahead ++ putT s ++ behind) (ahead.length : Int) = some (s.length, ahead.length + (putL s.length).length) := by
    have hne : 0 < (putT s).length := by
      unfold putT
      rw [List.length_append]
      have := List.length_pos_iff.2 (putL_ne s.length)
      omega
    rw [getAt_nat _ _ (by simp only [List.length_append]; omega)]
    have : (ahead ++ putT s ++ behind).drop ahead.length = putL s.length ++ (s ++ behind) := by
      rw [List.append_assoc, List.drop_left]
      unfold putT
      rw [List.append_assoc]
    rw [this, getL_put _ (by omega)]
    rfl
  unfold textAt
  rw [hg]
  simp only [Option.bind_some]
  have hl : (ahead ++ putT s ++ behind).length - (ahead.length + (putL s.length).length) = s.length + behind.length := by
    unfold putT
    simp only [List.length_append]
    omega
  rw [if_pos (by rw [hl]; omega)]
  have hd : (ahead ++ putT s ++ behind).drop (ahead.length + (putL s.length).length) = s ++ behind := by
    rw [List.append_assoc, ← List.drop_drop, List.drop_left]
    unfold putT
    rw [List.append_assoc, List.drop_left]
  rw [hd, List.take_left]
  unfold putT
  rw [List.length_append, Nat.add_assoc]

theorem getAt_tells (ahead behind : List UInt8) (n : Nat) (hn : (n : Int) ≤ 9223372036854775807) : getAt (ahead ++ putL n ++ behind) (ahead.length : Int) = some (n, ahead.length + (putL n).length) := by
  have hne := List.length_pos_iff.2 (putL_ne n)
  rw [getAt_nat _ _ (by simp only [List.length_append]; omega), List.append_assoc, List.drop_left, getL_put _ hn]
  rfl

/-- The operation at a place, and where it ends. -/
def opAt (l : List UInt8) (p : Nat) : Option (Ope × Nat) :=
  match getAt l (p : Int) with
  | none => none
  | some (k, a) => match textAt l (a : Int) with
    | none => none
    | some (key, b) => if k = 1 then match textAt l (b : Int) with
        | none => none
        | some (val, c) => some (⟨1, strB key, strB val⟩, c)
      else some (⟨(k : Int), strB key, ⟨#[]⟩⟩, b)

/-- So many operations from a place on. -/
def opsAt (l : List UInt8) : Nat → Nat → Option (List Ope × Nat)
  | 0, p => some ([], p)
  | n + 1, p => match opAt l p with
    | none => none
    | some (o, q) => match opsAt l n q with
      | none => none
      | some (r, e) => some (o :: r, e)

/-- What batch the bytes begin with. -/
def batAt (l : List UInt8) : Option (Nat × List Ope × Nat) :=
  match getAt l 0 with
  | none => none
  | some (s, a) => match getAt l (a : Int) with
    | none => none
    | some (n, b) => if 32 < n then none else match opsAt l n b with
      | none => none
      | some (ops, e) => some (s, ops, e)

theorem opAt_stands {l : List UInt8} {p q : Nat} {o : Ope} (h : opAt l p = some (o, q)) : l.drop p = putOpL o ++ l.drop q ∧ p < q ∧ q ≤ l.length ∧ (0 ≤ o.k ∧ o.k ≤ 9223372036854775807) ∧ o.u.size ≤ l.length ∧ o.v.size ≤ l.length := by
  unfold opAt at h
  split at h
  · cases h
  · rename_i k a hg
    obtain ⟨p', hp, h1, h2, h0, h3, h4⟩ := getAt_some hg
    obtain rfl : p = p' := by omega
    split at h
    · cases h
    · rename_i key b ht
      obtain ⟨t1, t2, t3⟩ := textAt_stands ht
      have hkl : key.length ≤ l.length := by
        have := congrArg List.length t1
        unfold putT at this
        simp only [List.length_append, List.length_drop] at this
        omega
      split at h
      · rename_i hk
        subst hk
        split at h
        · cases h
        · rename_i val c hv
          obtain ⟨v1, v2, v3⟩ := textAt_stands hv
          have hvl : val.length ≤ l.length := by
            have := congrArg List.length v1
            unfold putT at this
            simp only [List.length_append, List.length_drop] at this
            omega
          simp only [Option.some.injEq, Prod.mk.injEq] at h
          obtain ⟨rfl, rfl⟩ := h
          refine ⟨?_, by omega, by omega, ⟨by simp, by simp⟩, by rw [strB_size]; exact hkl, by rw [strB_size]; exact hvl⟩
          unfold putOpL
          simp only [if_pos]
          show _ = putL 1 ++ putT key ++ putT val ++ _
          rw [h3, t1, v1]
          simp
      · rename_i hk
        simp only [Option.some.injEq, Prod.mk.injEq] at h
        obtain ⟨rfl, rfl⟩ := h
        refine ⟨?_, by omega, by omega, ⟨by simp, by simpa using h0⟩, by rw [strB_size]; exact hkl, Nat.zero_le _⟩
        unfold putOpL
        rw [if_neg (by simp only; omega)]
        show _ = putL k ++ putT key ++ [] ++ _
        rw [h3, t1]
        simp

theorem opsAt_stands {l : List UInt8} : ∀ {n p e : Nat} {ops : List Ope}, opsAt l n p = some (ops, e) → p ≤ l.length → l.drop p = ops.flatMap putOpL ++ l.drop e ∧ e ≤ l.length ∧ ops.length = n
  | 0, p, e, ops, h, hp => by
    simp only [opsAt, Option.some.injEq, Prod.mk.injEq] at h
    obtain ⟨rfl, rfl⟩ := h
    exact ⟨rfl, hp, rfl⟩
  | n + 1, p, e, ops, h, hp => by
    unfold opsAt at h
    split at h
    · cases h
    · rename_i o q ho
      obtain ⟨o1, o2, o3, _⟩ := opAt_stands ho
      split at h
      · cases h
      · rename_i r e' hr
        simp only [Option.some.injEq, Prod.mk.injEq] at h
        obtain ⟨rfl, rfl⟩ := h
        obtain ⟨r1, r2, r3⟩ := opsAt_stands hr o3
        refine ⟨?_, r2, by rw [List.length_cons, r3]⟩
        rw [o1, r1, List.flatMap_cons, List.append_assoc]

theorem batAt_stands {l : List UInt8} {s e : Nat} {ops : List Ope} (h : batAt l = some (s, ops, e)) : l = putBody (s : Int) ops ++ l.drop e ∧ e ≤ l.length ∧ ops.length ≤ 32 ∧ l ≠ [] := by
  unfold batAt at h
  split at h
  · cases h
  · rename_i s' a hs
    obtain ⟨p, hp, h1, h2, h0, h3, h4⟩ := getAt_some hs
    obtain rfl : p = 0 := by omega
    split at h
    · cases h
    · rename_i n b hn
      obtain ⟨p', hp', n1, n2, _, n3, n4⟩ := getAt_some hn
      obtain rfl : a = p' := by omega
      split at h
      · cases h
      · rename_i h32
        split at h
        · cases h
        · rename_i ops' e' ho
          simp only [Option.some.injEq, Prod.mk.injEq] at h
          obtain ⟨rfl, rfl, rfl⟩ := h
          obtain ⟨r1, r2, r3⟩ := opsAt_stands ho n2
          refine ⟨?_, r2, by omega, fun e => by subst e; simp at h2; omega⟩
          rw [List.drop_zero] at h3
          unfold putBody
          conv => lhs; rw [h3, n3, r1]
          rw [r3]
          simp

theorem opAt_tells (ahead behind : List UInt8) {o : Ope} (h : mayO o = 0) : opAt (ahead ++ putOpL o ++ behind) ahead.length = some (o, ahead.length + (putOpL o).length) := by
  obtain ⟨h1, h2, h3, h4⟩ := mayO_zero h
  obtain ⟨k, u, v⟩ := o
  simp only at h1 h2 h3 h4
  have e1 : getAt (ahead ++ putOpL ⟨k, u, v⟩ ++ behind) (ahead.length : Int) = some (k.toNat, ahead.length + (putL k.toNat).length) := by
    have := getAt_tells ahead (putT u.data.toList ++ (if k = 1 then putT v.data.toList else []) ++ behind) k.toNat (by omega)
    rw [← this]
    congr 1
    unfold putOpL
    simp
  have e2 : textAt (ahead ++ putOpL ⟨k, u, v⟩ ++ behind) ((ahead.length + (putL k.toNat).length : Nat) : Int) = some (u.data.toList, ahead.length + (putL k.toNat).length + (putT u.data.toList).length) := by
    have := textAt_tells (ahead ++ putL k.toNat) ((if k = 1 then putT v.data.toList else []) ++ behind) u.data.toList (by rw [ostr_len]; omega)
    rw [List.length_append] at this
    rw [← this]
    congr 1
    unfold putOpL
    simp
  unfold opAt
  rw [e1]
  simp only
  rw [e2]
  simp only
  rcases h1 with rfl | rfl
  · have e3 : textAt (ahead ++ putOpL ⟨1, u, v⟩ ++ behind) ((ahead.length + (putL (1 : Int).toNat).length + (putT u.data.toList).length : Nat) : Int) = some (v.data.toList, ahead.length + (putL (1 : Int).toNat).length + (putT u.data.toList).length + (putT v.data.toList).length) := by
      have := textAt_tells (ahead ++ putL (1 : Int).toNat ++ putT u.data.toList) behind v.data.toList (by rw [ostr_len]; omega)
      rw [List.length_append, List.length_append] at this
      rw [← this]
      congr 1
      unfold putOpL
      simp
    rw [if_pos (show Int.toNat 1 = 1 from rfl), e3]
    simp only [Option.some.injEq, Prod.mk.injEq, true_and]
    show _ = ahead.length + (putL (1 : Int).toNat ++ putT u.data.toList ++ putT v.data.toList).length
    simp only [List.length_append]
    omega
  · have hv0 : v = ⟨#[]⟩ := by
      have : v.size = 0 := by omega
      cases v with
      | mk d => exact congrArg ByteArray.mk (Array.eq_empty_of_size_eq_zero this)
    rw [if_neg (by decide)]
    simp only [Option.some.injEq, Prod.mk.injEq]
    refine ⟨by rw [hv0]; rfl, ?_⟩
    show _ = ahead.length + (putL (2 : Int).toNat ++ putT u.data.toList ++ []).length
    simp only [List.append_nil, List.length_append]
    omega

theorem opsAt_tells : ∀ (ops : List Ope) (ahead behind : List UInt8), (∀ o ∈ ops, mayO o = 0) → opsAt (ahead ++ ops.flatMap putOpL ++ behind) ops.length ahead.length = some (ops, ahead.length + (ops.flatMap putOpL).length)
  | [], ahead, behind, _ => by simp [opsAt]
  | o :: r, ahead, behind, h => by
    have h1 := opAt_tells ahead (r.flatMap putOpL ++ behind) (h o (by simp))
    have h2 := opsAt_tells r (ahead ++ putOpL o) behind fun x hx => h x (by simp [hx])
    have e : ahead ++ (o :: r).flatMap putOpL ++ behind = ahead ++ putOpL o ++ (r.flatMap putOpL ++ behind) := by rw [List.flatMap_cons]; simp
    have e' : ahead ++ putOpL o ++ r.flatMap putOpL ++ behind = ahead ++ putOpL o ++ (r.flatMap putOpL ++ behind) := by simp
    rw [e]
    rw [e', List.length_append] at h2
    rw [List.length_cons, opsAt, h1]
    simp only
    rw [h2]
    simp only [Option.some.injEq, Prod.mk.injEq, true_and]
    rw [List.flatMap_cons, List.length_append]
    omega

theorem batAt_tells {s : Nat} {ops : List Ope} (hs : (s : Int) ≤ 9007199254740992) (hl : ops.length ≤ 32) (h : ∀ o ∈ ops, mayO o = 0) : batAt (putBody (s : Int) ops) = some (s, ops, (putBody (s : Int) ops).length) := by
  have e1 : getAt (putBody (s : Int) ops) 0 = some (s, (putL s).length) := by
    have := getAt_tells [] (putL ops.length ++ ops.flatMap putOpL) s (by omega)
    simp only [List.nil_append, List.length_nil, Nat.zero_add] at this
    unfold putBody
    rw [List.append_assoc]
    exact this
  have e2 : getAt (putBody (s : Int) ops) ((putL s).length : Int) = some (ops.length, (putL s).length + (putL ops.length).length) := by
    have := getAt_tells (putL s) (ops.flatMap putOpL) ops.length (by omega)
    exact this
  have e3 : opsAt (putBody (s : Int) ops) ops.length ((putL s).length + (putL ops.length).length) = some (ops, (putBody (s : Int) ops).length) := by
    have := opsAt_tells ops (putL s ++ putL ops.length) [] h
    rw [List.append_nil, List.length_append] at this
    have e4 : putBody (s : Int) ops = putL s ++ putL ops.length ++ ops.flatMap putOpL := rfl
    rw [e4, this]
    simp only [List.length_append]
  unfold batAt
  rw [e1]
  simp only
  rw [e2]
  simp only
  rw [if_neg (by omega), e3]

/-- The batch whose bytes these are. -/
def getBat (l : List UInt8) : Option (Nat × List Ope) :=
  match batAt l with
  | none => none
  | some (s, ops, _) => if putBat (s : Int) ops = l then some (s, ops) else none

/-- .. as the document tells it. -/
theorem getBat_iff {l : List UInt8} {s e : Nat} {ops : List Ope} (h : batAt l = some (s, ops, e)) : (putBat (s : Int) ops = l) ↔ (e = l.length ∧ mayBt (s : Int) ops = true) := by
  obtain ⟨h1, h2, h3, h4⟩ := batAt_stands h
  constructor
  · intro hp
    have hm : mayBt (s : Int) ops = true := by
      cases hm : mayBt (s : Int) ops with
      | true => rfl
      | false =>
        unfold putBat at hp
        rw [hm] at hp
        exact absurd hp.symm h4
    refine ⟨?_, hm⟩
    have hb : putBody (s : Int) ops = l := by unfold putBat at hp; rwa [if_pos hm] at hp
    obtain ⟨_, hs, hmo, _⟩ := mayBt_true hm
    have := batAt_tells hs h3 (mayOs_zero hmo).2.2
    rw [hb, h] at this
    simp only [Option.some.injEq, Prod.mk.injEq] at this
    exact this.2.2
  · rintro ⟨rfl, hm⟩
    unfold putBat
    rw [if_pos hm]
    rw [List.drop_length, List.append_nil] at h1
    exact h1.symm

theorem getBat_some {l : List UInt8} {s : Nat} {ops : List Ope} (h : getBat l = some (s, ops)) : putBat (s : Int) ops = l ∧ l ≠ [] ∧ mayBt (s : Int) ops = true := by
  unfold getBat at h
  split at h
  · cases h
  · rename_i s' ops' e hb
    split at h
    · rename_i hp
      simp only [Option.some.injEq, Prod.mk.injEq] at h
      obtain ⟨rfl, rfl⟩ := h
      exact ⟨hp, (batAt_stands hb).2.2.2, ((getBat_iff hb).1 hp).2⟩
    · cases h

theorem getBat_put {s : Nat} {ops : List Ope} (h : mayBt (s : Int) ops = true) : getBat (putBat (s : Int) ops) = some (s, ops) := by
  obtain ⟨_, hs, hmo, _⟩ := mayBt_true h
  obtain ⟨_, hl, hall⟩ := mayOs_zero hmo
  have hb := batAt_tells hs hl hall
  have e : putBat (s : Int) ops = putBody (s : Int) ops := by unfold putBat; rw [if_pos h]
  unfold getBat
  rw [e, hb]
  simp only
  rw [if_pos e]
end Go.Proofs.Ytpbmacbogmnokaa
