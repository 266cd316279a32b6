/-
  What batch.Get does, for any bytes.
-/
import Derived.Test.YtpbmacbogmnokaaBatchRead
import Derived.Test.YtpbmacbogmnokaaLayO
namespace Go.Proofs.Ytpbmacbogmnokaa
open Go.RowKit

theorem beqB_any (va vb : Value) (a b : List UInt8) (w : World) (ha : RdB w va a) (hb : RdB w vb b) : Calls Try.prog 49 #[va, vb] w fun e w' => e = .returned (.bool (decide (a = b))) ∧ w' = w := by
  have h := Any.bytes_Equal { Try.eqB with } va vb (a.map fun c => (c.toNat : Int)) (b.map fun c => (c.toNat : Int)) w
    (by rw [strOfNums_bytes]; exact rdB_convert ha 27 5 9 Try.underlying27 Try.underlying5 Try.underlying9)
    (by rw [strOfNums_bytes]; exact rdB_convert hb 27 5 9 Try.underlying27 Try.underlying5 Try.underlying9)
  refine h.mono ?_
  rintro e w' ⟨rfl, rfl⟩
  refine ⟨?_, rfl⟩
  have e : ∀ l : List UInt8, Lib.bytesOf (l.map fun c => (c.toNat : Int)) = l := by
    intro l
    rw [← Lib.strOfNums_toList, strOfNums_bytes, otoList_data]
  rw [e, e]
  congr 1
  rw [Value.bool.injEq, Bool.eq_iff_iff, beq_iff_eq, decide_eq_true_eq]

/-- What is told of bytes. -/
def AnsGet (x : Option (Nat × List Ope)) (B : Nat) (e : Ending) (w' : World) : Prop :=
  match x with
  | some (s, ops) => ∃ v, e = .returned (.tuple #[.agg #[.int .i64 (s : Int), v], .bool true]) ∧ OwnO w' B 43 v ops
  | none => e = .returned (.tuple #[.agg #[.int .i64 0, .slice none 0 0], .bool false])

theorem batAt_fits {l : List UInt8} (hl : l.length ≤ maxLen) {s e : Nat} {ops : List Ope} (h : batAt l = some (s, ops, e)) : ∀ o ∈ ops, o.fits := by
  unfold batAt at h
  split at h
  · cases h
  · split at h
    · cases h
    · split at h
      · cases h
      · split at h
        · cases h
        · rename_i ops' e' ho
          simp only [Option.some.injEq, Prod.mk.injEq] at h
          obtain ⟨_, rfl, _⟩ := h
          exact opsAt_fits hl ho

set_option maxRecDepth 100000 in
set_option maxHeartbeats 8000000 in
theorem bget_any (v : Value) (l : List UInt8) (w : World) (hv : RdB w v l) :
    Calls Try.prog 30 #[v] w fun e w' => AnsGet (getBat l) w.heap.size e w' ∧ Below w.heap.size w w' := by
  obtain ⟨a, cap, rfl, hc1, hc2⟩ := hv.form
  have HV := Lib.hid (hv.below ((Below.refl w.heap.size w).alloc (Nat.le_refl _) (.cells #[.int .i64 0, .slice none 0 0] 24)) (Nat.le_refl _))
  have HV0 := Lib.hid hv
  clear hv
  cases hbat : batAt l with
  | none =>
    have HR := Lib.hid hbat
    have HG : Hid (getBat l = none) := Lib.hid (by unfold getBat; rw [hbat])
    clear hbat
    rw [HG.out]
    go_enter Try.func30, Try.ntmps30
    go_wp2_with (go_at_call 48; refine (read_any _ l _ HV.out).mono ?_; rintro e w2 ⟨he, hb2⟩; rw [HR.out] at he; unfold AnsBat at he; subst he; have z0 := (hb2.cell (p := ⟨w.heap.size, 0, none⟩) (by simp)).trans (by go_simp : _ = some (Value.int .i64 0)); have z1 := (hb2.cell (p := ⟨w.heap.size, 1, none⟩) (by simp)).trans (by go_simp : _ = some (Value.slice none 0 0)); have z2 := (hb2.frozen (p := ⟨w.heap.size, 0, none⟩) (by simp)).trans (by go_simp : _ = false); have z3 := (hb2.frozen (p := ⟨w.heap.size, 1, none⟩) (by simp)).trans (by go_simp : _ = false); have hy : w.heap.size < w2.heap.size := Nat.lt_of_lt_of_le (by simp) hb2.size; have HB2 := Lib.hid (((Below.refl w.heap.size w).alloc (Nat.le_refl _) _).trans (hb2.mono (by simp))); clear hb2)
    refine bodyPost_ret (v := .tuple #[.agg #[.int .i64 0, .slice none 0 0], .bool false]) (by simp [results, Try.results30, go_sem, z0, z1, hy]) rfl ?_
    exact ⟨rfl, ((HB2.out.setCell (Nat.le_refl _) _).setCell (Nat.le_refl _) _).alloc (by simp; omega) _⟩
  | some x =>
    obtain ⟨s, ops, en⟩ := x
    have HR := Lib.hid hbat
    have HF := Lib.hid (batAt_fits (by omega) hbat)
    have HLN : Hid (ops.length ≤ 100000) := Lib.hid (by have := (batAt_stands hbat).2.2.1; omega)
    by_cases hp : putBat (s : Int) ops = l
    · have HD : Hid (decide (putBat (s : Int) ops = l) = true) := Lib.hid (decide_eq_true hp)
      have HG : Hid (getBat l = some (s, ops)) := Lib.hid (by unfold getBat; rw [hbat]; simp only; rw [if_pos hp])
      clear hbat hp
      rw [HG.out]
      go_enter Try.func30, Try.ntmps30
      go_wp2_with (first | (go_at_call 48; refine (read_any _ l _ HV.out).mono ?_; rintro e w2 ⟨he, hb2⟩; rw [HR.out] at he; obtain ⟨v2, he, ho2⟩ := he; obtain ⟨va, vc, hva, _, _⟩ := ho2.form; subst hva; subst he; have HO2 := Lib.hid (ho2.read HF.out); have HOW := Lib.hid ho2; clear ho2; have z0 := (hb2.cell (p := ⟨w.heap.size, 0, none⟩) (by simp)).trans (by go_simp : _ = some (Value.int .i64 0)); have z1 := (hb2.cell (p := ⟨w.heap.size, 1, none⟩) (by simp)).trans (by go_simp : _ = some (Value.slice none 0 0)); have z2 := (hb2.frozen (p := ⟨w.heap.size, 0, none⟩) (by simp)).trans (by go_simp : _ = false); have z3 := (hb2.frozen (p := ⟨w.heap.size, 1, none⟩) (by simp)).trans (by go_simp : _ = false); have hy : w.heap.size < w2.heap.size := Nat.lt_of_lt_of_le (by simp) hb2.size; have HB2 := Lib.hid (((Below.refl w.heap.size w).alloc (Nat.le_refl _) _).trans (hb2.mono (by simp))); clear hb2) | (go_at_call 22; refine (bput_any _ _ ops _ (HO2.out.below ((Below.refl _ _).alloc (Nat.le_refl _) _) (Nat.le_refl _)) HLN.out).mono ?_; rintro e w3 ⟨p3, rfl, ho3, hb3⟩; obtain ⟨pa, pc, rfl, _, _⟩ := ho3.read.form; have HP3 := Lib.hid ho3.read; have hy3 : w2.heap.size < w3.heap.size := Nat.lt_of_lt_of_le (by simp) hb3.size; have t0 := (hb3.cell (p := ⟨w2.heap.size, 0, none⟩) (by simp)).trans (by go_simp : _ = some (Value.int .i64 (s : Int))); have t1 := (hb3.cell (p := ⟨w2.heap.size, 1, none⟩) (by simp)).trans (by go_simp : _ = some (Value.slice va ops.length vc)); have y0 := (hb3.cell (p := ⟨w.heap.size, 0, none⟩) (by simp; omega)).trans (by go_simp : _ = some (Value.int .i64 0)); have y1 := (hb3.cell (p := ⟨w.heap.size, 1, none⟩) (by simp; omega)).trans (by go_simp : _ = some (Value.slice none 0 0)); have y2 := (hb3.frozen (p := ⟨w.heap.size, 0, none⟩) (by simp; omega)).trans (by go_simp : _ = false); have y3 := (hb3.frozen (p := ⟨w.heap.size, 1, none⟩) (by simp; omega)).trans (by go_simp : _ = false); have HOW3 := Lib.hid (OwnO.below (World.ownsRow.alloc HOW.out _) hb3 (Nat.le_refl _)); have HB3 := Lib.hid ((HB2.out.alloc (Nat.le_of_lt hy) _).trans (hb3.mono (by simp; omega))); clear ho3 hb3) | (go_at_call 49; refine (beqB_any _ _ (putBat (s : Int) ops) l _ HP3.out (HV0.out.below HB3.out (Nat.le_refl _))).mono ?_; rintro e w4 ⟨rfl, rfl⟩; rw [HD.out]))
      refine bodyPost_ret (v := .tuple #[.agg #[.int .i64 (s : Int), .slice va ops.length vc], .bool true]) (by simp [results, Try.results30, go_sem, y0, y1]) rfl ?_
      refine ⟨⟨_, rfl, ?_⟩, (HB3.out.setCell (Nat.le_refl _) _).setCell (Nat.le_refl _) _⟩
      have ho := HOW3.out
      refine own_mono (own_kept ho (R := fun q => w.heap.size + 1 ≤ q) (((Kept.refl _ _).setCell (by simp) _).setCell (by simp) _) fun q hq => ?_) (by simp)
      have := (World.ownsRow.lt ho q hq).1
      simpa using this
    · have HD : Hid (decide (putBat (s : Int) ops = l) = false) := Lib.hid (decide_eq_false hp)
      have HG : Hid (getBat l = none) := Lib.hid (by unfold getBat; rw [hbat]; simp only; rw [if_neg hp])
      clear hbat hp
      rw [HG.out]
      go_enter Try.func30, Try.ntmps30
      go_wp2_with (first | (go_at_call 48; refine (read_any _ l _ HV.out).mono ?_; rintro e w2 ⟨he, hb2⟩; rw [HR.out] at he; obtain ⟨v2, he, ho2⟩ := he; obtain ⟨va, vc, hva, _, _⟩ := ho2.form; subst hva; subst he; have HO2 := Lib.hid (ho2.read HF.out); have HOW := Lib.hid ho2; clear ho2; have z0 := (hb2.cell (p := ⟨w.heap.size, 0, none⟩) (by simp)).trans (by go_simp : _ = some (Value.int .i64 0)); have z1 := (hb2.cell (p := ⟨w.heap.size, 1, none⟩) (by simp)).trans (by go_simp : _ = some (Value.slice none 0 0)); have z2 := (hb2.frozen (p := ⟨w.heap.size, 0, none⟩) (by simp)).trans (by go_simp : _ = false); have z3 := (hb2.frozen (p := ⟨w.heap.size, 1, none⟩) (by simp)).trans (by go_simp : _ = false); have hy : w.heap.size < w2.heap.size := Nat.lt_of_lt_of_le (by simp) hb2.size; have HB2 := Lib.hid (((Below.refl w.heap.size w).alloc (Nat.le_refl _) _).trans (hb2.mono (by simp))); clear hb2) | (go_at_call 22; refine (bput_any _ _ ops _ (HO2.out.below ((Below.refl _ _).alloc (Nat.le_refl _) _) (Nat.le_refl _)) HLN.out).mono ?_; rintro e w3 ⟨p3, rfl, ho3, hb3⟩; obtain ⟨pa, pc, rfl, _, _⟩ := ho3.read.form; have HP3 := Lib.hid ho3.read; have hy3 : w2.heap.size < w3.heap.size := Nat.lt_of_lt_of_le (by simp) hb3.size; have t0 := (hb3.cell (p := ⟨w2.heap.size, 0, none⟩) (by simp)).trans (by go_simp : _ = some (Value.int .i64 (s : Int))); have t1 := (hb3.cell (p := ⟨w2.heap.size, 1, none⟩) (by simp)).trans (by go_simp : _ = some (Value.slice va ops.length vc)); have y0 := (hb3.cell (p := ⟨w.heap.size, 0, none⟩) (by simp; omega)).trans (by go_simp : _ = some (Value.int .i64 0)); have y1 := (hb3.cell (p := ⟨w.heap.size, 1, none⟩) (by simp; omega)).trans (by go_simp : _ = some (Value.slice none 0 0)); have y2 := (hb3.frozen (p := ⟨w.heap.size, 0, none⟩) (by simp; omega)).trans (by go_simp : _ = false); have y3 := (hb3.frozen (p := ⟨w.heap.size, 1, none⟩) (by simp; omega)).trans (by go_simp : _ = false); have HOW3 := Lib.hid (OwnO.below (World.ownsRow.alloc HOW.out _) hb3 (Nat.le_refl _)); have HB3 := Lib.hid ((HB2.out.alloc (Nat.le_of_lt hy) _).trans (hb3.mono (by simp; omega))); clear ho3 hb3) | (go_at_call 49; refine (beqB_any _ _ (putBat (s : Int) ops) l _ HP3.out (HV0.out.below HB3.out (Nat.le_refl _))).mono ?_; rintro e w4 ⟨rfl, rfl⟩; rw [HD.out]))
      refine bodyPost_ret (v := .tuple #[.agg #[.int .i64 0, .slice none 0 0], .bool false]) (by simp [results, Try.results30, go_sem, y0, y1]) rfl ?_
      exact ⟨rfl, (HB3.out.setCell (Nat.le_refl _) _).setCell (Nat.le_refl _) _⟩
end Go.Proofs.Ytpbmacbogmnokaa
