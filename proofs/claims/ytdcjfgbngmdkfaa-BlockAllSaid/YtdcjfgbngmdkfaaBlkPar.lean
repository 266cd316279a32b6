/-
  Blocks: plain facts: the entries are told one by one.
-/
import Derived.Test.YtdcjfgbngmdkfaaBlkGet
namespace Go.Proofs.Ytdcjfgbngmdkfaa
open Go.RowKit

/-- So far the entries are those of any block that these bytes can be the body of; the next one begins at p. -/
def Par (c : List UInt8) (acc : List Ent) (p : Nat) : Prop := ∀ es, IsBody c es → acc.length ≤ es.length ∧ acc = es.take acc.length ∧ p = (bodyN es acc.length).length

theorem Par.start (c : List UInt8) : Par c [] 0 := fun _ _ => ⟨Nat.zero_le _, rfl, rfl⟩
theorem prevU_acc {acc es : List Ent} (h : acc = es.take acc.length) : prevU acc acc.length = prevU es acc.length := by
  have := prevU_take es (Nat.le_refl acc.length)
  rw [← h] at this
  exact this
theorem Par.none_ {c : List UInt8} {acc : List Ent} {p : Nat} (h : Par c acc p) (hp : p < c.length) (hs : stepP c (prevU acc acc.length) p = none) (es : List Ent) : ¬ IsBody c es := by
  intro hb
  obtain ⟨h1, h2, h3⟩ := h es hb
  have hlt : acc.length < es.length := (hb.at_end h1).1 (by rw [← h3]; exact hp)
  have := hb.step hlt
  rw [← prevU_acc h2, ← h3, hs] at this
  cases this
theorem Par.more {c : List UInt8} {acc : List Ent} {p q : Nat} {e : Ent} (h : Par c acc p) (hp : p < c.length) (hs : stepP c (prevU acc acc.length) p = some (e, q)) : Par c (acc ++ [e]) q := by
  intro es hb
  obtain ⟨h1, h2, h3⟩ := h es hb
  have hlt : acc.length < es.length := (hb.at_end h1).1 (by rw [← h3]; exact hp)
  have := hb.step hlt
  rw [← prevU_acc h2, ← h3, hs] at this
  simp only [Option.some.injEq, Prod.mk.injEq] at this
  have hl : (acc ++ [e]).length = acc.length + 1 := by simp
  rw [hl]
  refine ⟨hlt, ?_, this.2⟩
  rw [take_more es hlt, ← h2, this.1]
theorem Par.end_ {c : List UInt8} {acc : List Ent} {p : Nat} (h : Par c acc p) (hp : ¬ p < c.length) {es : List Ent} (hb : IsBody c es) : es = acc := by
  obtain ⟨h1, h2, h3⟩ := h es hb
  have : ¬ acc.length < es.length := fun hlt => hp (by rw [h3]; exact (hb.at_end h1).2 hlt)
  rw [h2, List.take_of_length_le (by omega)]

theorem prevU_snoc (acc : List Ent) (e : Ent) : prevU (acc ++ [e]) (acc.length + 1) = uL e := by
  unfold prevU
  rw [if_neg (by omega)]
  simp [List.getD]

/-- What the last two bytes of a block tell. -/
theorem IsBlk.count {b : List UInt8} {es : List Ent} (h : IsBlk b es) : 2 ≤ b.length ∧ 1 ≤ valL (b.drop (b.length - 2)) ∧ 4 * valL (b.drop (b.length - 2)) + 2 ≤ b.length := by
  obtain ⟨h1, h2, h3⟩ := putErr_ok h.1
  have hpos := List.length_pos_iff.2 h2
  have hl := blockL_len es
  have hc := blockL_count es h3
  rw [← h.2, hc, hl]
  omega

/-- What the rest tells, by what the four reads tell. -/
theorem step_by {c last : List UInt8} {p s a d x f g : Nat} {rest v : List UInt8} (h1 : getAt c (p : Int) = some (s, a)) (h2 : textAt c (a : Int) = some (rest, d)) (h3 : getAt c (d : Int) = some (x, f)) (h4 : textAt c (f : Int) = some (v, g)) :
    stepP c last p = if last.length < s then none else some (⟨strB (last.take s ++ rest), ((x / 2 : Nat) : Int), ((1 + x % 2 : Nat) : Int), strB v⟩, g) := by
  unfold stepP
  rw [h1]; simp only
  rw [h2]; simp only
  rw [h3]; simp only
  rw [h4]
theorem step_no1 {c last : List UInt8} {p : Nat} (h1 : getAt c (p : Int) = none) : stepP c last p = none := by unfold stepP; rw [h1]
theorem step_no2 {c last : List UInt8} {p s a : Nat} (h1 : getAt c (p : Int) = some (s, a)) (h2 : textAt c (a : Int) = none) : stepP c last p = none := by unfold stepP; rw [h1]; simp only; rw [h2]
theorem step_no3 {c last : List UInt8} {p s a d : Nat} {rest : List UInt8} (h1 : getAt c (p : Int) = some (s, a)) (h2 : textAt c (a : Int) = some (rest, d)) (h3 : getAt c (d : Int) = none) : stepP c last p = none := by
  unfold stepP; rw [h1]; simp only; rw [h2]; simp only; rw [h3]
theorem step_no4 {c last : List UInt8} {p s a d x f : Nat} {rest : List UInt8} (h1 : getAt c (p : Int) = some (s, a)) (h2 : textAt c (a : Int) = some (rest, d)) (h3 : getAt c (d : Int) = some (x, f)) (h4 : textAt c (f : Int) = none) : stepP c last p = none := by
  unfold stepP; rw [h1]; simp only; rw [h2]; simp only; rw [h3]; simp only; rw [h4]

/-- What a number at a place is, as three letters. -/
theorem ans3_form (c : List UInt8) (at_ : Int) : ∃ (n k : Nat) (ok : Bool), ans3 (getAt c at_) = .tuple #[.int .i64 (n : Int), .int .i64 (k : Int), .bool ok] ∧ (ok = true → getAt c at_ = some (n, k) ∧ at_ < (k : Int)) ∧ (ok = false → getAt c at_ = none) ∧ n ≤ 9223372036854775807 ∧ k ≤ c.length := by
  cases h : getAt c at_ with
  | none => exact ⟨0, 0, false, rfl, (fun e => by cases e), (fun _ => rfl), by omega, Nat.zero_le _⟩
  | some x =>
    obtain ⟨n, k⟩ := x
    obtain ⟨p, hp, h1, h2, h0, _, h4⟩ := getAt_some h
    exact ⟨n, k, true, rfl, fun _ => ⟨rfl, by omega⟩, (fun e => by cases e), by omega, by omega⟩
theorem textAt_bound {c : List UInt8} {at_ : Int} {s : List UInt8} {k : Nat} (h : textAt c at_ = some (s, k)) : s.length ≤ c.length ∧ k ≤ c.length ∧ at_ < (k : Int) := by
  unfold textAt at h
  obtain ⟨⟨n, a⟩, hg, hb⟩ := Option.bind_eq_some_iff.1 h
  obtain ⟨p, hp, h1, h2, _⟩ := getAt_some hg
  simp only at hb
  split at hb
  · rename_i hn
    simp only [Option.some.injEq, Prod.mk.injEq] at hb
    obtain ⟨rfl, rfl⟩ := hb
    rw [List.length_take, List.length_drop]
    omega
  · cases hb
theorem ansT_form (c : List UInt8) (at_ : Int) : ∃ (s : List UInt8) (k : Nat) (ok : Bool), ansT (textAt c at_) = .tuple #[.string (strB s), .int .i64 (k : Int), .bool ok] ∧ (ok = true → textAt c at_ = some (s, k) ∧ at_ < (k : Int)) ∧ (ok = false → textAt c at_ = none) ∧ s.length ≤ c.length ∧ k ≤ c.length := by
  cases h : textAt c at_ with
  | none => exact ⟨[], 0, false, rfl, (fun e => by cases e), (fun _ => rfl), Nat.zero_le _, Nat.zero_le _⟩
  | some x =>
    obtain ⟨s, k⟩ := x
    obtain ⟨h1, h2, h3⟩ := textAt_bound h
    exact ⟨s, k, true, rfl, fun _ => ⟨rfl, h3⟩, (fun e => by cases e), h1, h2⟩
end Go.Proofs.Ytdcjfgbngmdkfaa
