import Derived.Test.YtmlijnekidihbaaMg04
import Derived.Test.YtmlijnekidihbaaShift
import Derived.Deep.Cut

/-
  Chapter 16: what the walks share: a Put and a Get of what is always put under a name and a number.
-/
namespace Go.Proofs.Ytmlijnekidihbaa
open Go.RowKit

/-- What is put under a name and a number. -/
def dataD (x : CKey) (b : List UInt8) : Prop := ∃ a p : Nat, a < 6 ∧ p < 4 ∧ x = (nameB a, (p : Int)) ∧ b = dataL a p
theorem dataD_at {a p : Nat} (ha : a < 6) (hp : p < 4) : dataD (nameB a, (p : Int)) (dataL a p) := ⟨a, p, ha, hp, rfl, rfl⟩
theorem dataD_one {a p : Nat} {b : List UInt8} (ha : a < 6) (h : dataD (nameB a, (p : Int)) b) : b = dataL a p := by
  obtain ⟨a', p', ha', _, h1, rfl⟩ := h
  obtain ⟨h2, h3⟩ := Prod.mk.inj h1
  obtain rfl := nameB_one ha ha' h2
  obtain rfl : p = p' := by omega
  rfl
theorem data_kept {a p : Nat} (ha : a < 6) (hp : p < 4) : keptC (nameB a) (p : Int) (dataL a p) = true := by
  unfold keptC
  rw [nameB_size ha, dataL_len]
  have := dataN_le a p
  simp
  omega
theorem wf_int {n : Int} (h1 : -9223372036854775808 ≤ n) (h2 : n ≤ 9223372036854775807) : (Lit.int .i64 n).wf = true := by
  simp only [Lit.wf, IntKind.min, IntKind.max, IntKind.signed, IntKind.bits]
  simp
  omega
theorem nat_wf {n : Nat} (h : n ≤ 1000000000) : (Lit.int .i64 (n : Int)).wf = true := wf_int (by omega) (by omega)
/-- 'string(b)' of what was told. -/
theorem str_of {w : World} {v : Value} {l : List UInt8} (h : RdB w v l) : (convert 22 9 v).run Try.prog w = .ok (.string (strB l)) w := rdB_convert h 22 5 9 Try.underlying22 Try.underlying5 Try.underlying9

section
variable {Dk : (CKey → List UInt8 → Prop) → Bool → Nat → (Nat → Prop) → World → Nat → Prop} {Ca : (CKey → List UInt8 → Prop) → Nat → Bool → Nat → (Nat → Prop) → World → Nat → Nat → List (CKey × List UInt8) → Prop}
variable {n k q p : Nat} {ok : Bool} {W w w' : World} {T : List (CKey × List UInt8)}
theorem caw_putD (hi : CacheC Dk Ca) (h : CaW Ca dataD n ok k W w q p T) (hk : k ≤ 150) {a c : Nat} (ha : a < 6) (hc : c < 4) (v : Value) {w0 : World} (hb0 : Below w.heap.size w w0) (ho : OwnB w0 w.heap.size 5 v (dataL a c)) :
    Calls Try.prog 14 #[.pointer (some ⟨q, 0, none⟩), .string (nameB a), .int .i64 (c : Int), v] w0 fun e w' => e = .returned (.tuple #[]) ∧ ∃ T', CaW Ca dataD n ok (k + 1) W w' q p T' ∧ (0 < n → ok = true → lookC T' (nameB a, (c : Int)) = some (dataL a c)) :=
  (caw_put hi h hk (nameB a) c v (dataL a c) hb0 ho.read (fun j hj => (World.ownsRow.lt ho j hj).1) (dataD_at ha hc) (by rw [nameB_size ha]; omega) (nat_wf (by omega)) (by rw [dataL_len]; have := dataN_le a c; omega)).mono fun _ _ ⟨h1, T', h2, _, _, h3⟩ => by
    refine ⟨h1, T', h2, fun hn hok => ?_⟩
    rwa [if_pos ⟨data_kept ha hc, hn, hok⟩] at h3
theorem caw_told (hi : CacheC Dk Ca) (h : CaW Ca dataD n ok k W w q p T) (hk : k ≤ 150) {a c : Nat} (ha : a < 6) (hc : c < 4) (hl : (lookC T (nameB a, (c : Int))).isSome = true) :
    Calls Try.prog 11 #[.pointer (some ⟨q, 0, none⟩), .string (nameB a), .int .i64 (c : Int)] w fun e w' => ∃ va m vc, e = .returned (.tuple #[.slice va m vc, .bool true]) ∧ RdB w' (.slice va m vc) (dataL a c) ∧ ∃ T', CaW Ca dataD n ok (k + 1) W w' q p T' ∧ (ok = true → T'.length = T.length ∧ ∀ y, lookC T' y = lookC T y) :=
  (caw_get hi h hk (nameB a) c (by rw [nameB_size ha]; omega) (nat_wf (by omega))).mono fun _ _ ⟨x, h1, h2, T', h3, h4, _⟩ => by
    obtain ⟨b, hb⟩ := Option.isSome_iff_exists.1 hl
    have hd := dataD_one ha ((h.few hi).2 _ _ hb)
    rw [hb, hd] at h1 h2
    obtain ⟨va, vc, rfl, _, _⟩ := h2.form
    exact ⟨va, _, vc, h1, h2, T', h3, h4⟩
theorem caw_untold (hi : CacheC Dk Ca) (h : CaW Ca dataD n ok k W w q p T) (hk : k ≤ 150) {a c : Nat} (ha : a < 6) (hc : c < 4) (hl : (lookC T (nameB a, (c : Int))).isSome = false) :
    Calls Try.prog 11 #[.pointer (some ⟨q, 0, none⟩), .string (nameB a), .int .i64 (c : Int)] w fun e w' => ∃ va vc, e = .returned (.tuple #[.slice va 0 vc, .bool false]) ∧ RdB w' (.slice va 0 vc) [] ∧ ∃ T', CaW Ca dataD n ok (k + 1) W w' q p T' ∧ (ok = true → T'.length = T.length ∧ ∀ y, lookC T' y = lookC T y) :=
  (caw_get hi h hk (nameB a) c (by rw [nameB_size ha]; omega) (nat_wf (by omega))).mono fun _ _ ⟨x, h1, h2, T', h3, h4, _⟩ => by
    have hn : lookC T (nameB a, (c : Int)) = none := by simpa using hl
    rw [hn] at h1 h2
    obtain ⟨va, vc, rfl, _, _⟩ := h2.form
    exact ⟨va, vc, h1, h2, T', h3, h4⟩
theorem caw_few (hi : CacheC Dk Ca) (h : CaW Ca dataD n ok k W w q p T) :
    Calls Try.prog 15 #[.pointer (some ⟨q, 0, none⟩)] w fun e w' => ∃ m : Nat, e = .returned (.int .i64 (m : Int)) ∧ m ≤ n ∧ CaW Ca dataD n ok k W w' q p T :=
  (caw_len hi h).mono fun _ _ ⟨m, h1, h2, _, h3⟩ => ⟨m, h1, h2, h3⟩
theorem caw_few2 (hi : CacheC Dk Ca) (h : CaW Ca dataD n ok k W w q p T) :
    Calls Try.prog 15 #[.pointer (some ⟨q, 0, none⟩)] w fun e w' => ∃ m : Nat, e = .returned (.int .i64 (m : Int)) ∧ m ≤ n ∧ Below w.heap.size w w' := by
  obtain ⟨G, h1, _, _⟩ := h
  exact (hi.len h1).mono fun _ _ ⟨m, h2, h3, _, h4⟩ => ⟨m, h2, h3, h4⟩
theorem caw_zero (hi : CacheC Dk Ca) (h : CaW Ca dataD n true k W w q p []) :
    Calls Try.prog 15 #[.pointer (some ⟨q, 0, none⟩)] w fun e w' => e = .returned (.int .i64 0) ∧ CaW Ca dataD n true k W w' q p [] :=
  (caw_len hi h).mono fun _ _ ⟨m, h1, _, h2, h3⟩ => ⟨by rw [h1, h2 rfl]; rfl, h3⟩
theorem lim_of {m : Nat} (h : m ≤ 64) : limC (m : Int) = m := by unfold limC; omega
theorem look_none {x : CKey} (h : T.length = 0) : (lookC T x).isSome = false := by
  obtain rfl := List.eq_nil_of_length_eq_zero h
  rfl
theorem caw_fall (hi : CacheC Dk Ca) {D : CKey → List UInt8 → Prop} (h : DkW Dk D ok k W w p) (hk : k ≤ 150) (x names : Int) (h1 : 0 ≤ x) (h2 : x ≤ 1000000) (h3 : 0 ≤ names) (h4 : names ≤ 1000) :
    Calls Try.prog 16 #[.pointer (some ⟨p, 0, none⟩), .agg #[.int .i64 1048576, .int .i64 0, .bool false, .slice (some ⟨w.heap.size, 0, none⟩) 1 1, .int .i64 names]] (w.alloc (.cells #[.int .i64 x] 3)) fun e w' => e = .returned (.tuple #[]) ∧ ∃ ok', DkW Dk D ok' (k + 1) W w' p := by
  obtain ⟨G, g1, g2, g3⟩ := h
  have hb : Below w.heap.size w (w.alloc (.cells #[.int .i64 x] 3)) := (Below.refl _ _).alloc (Nat.le_refl _) _
  have g4 := hi.dkept (R := fun j => j < w.heap.size) g1 (Kept.of hb fun _ h => h) (hi.dlt g1)
  exact (hi.fall g4 hk w.heap.size x names (heap_alloc_new w _) (fun hg => by have := hi.dlt g1 _ hg; omega) h1 h2 h3 h4).mono fun _ _ ⟨e1, ok', G', e2, e3, e4⟩ => ⟨e1, ok', dkW_of e2 g2 (belowT g3 hb) e3 e4⟩
end
end Go.Proofs.Ytmlijnekidihbaa
