import Derived.Test.YtmlijnekidihbaaCacheName
import Derived.Test.YtmlijnekidihbaaKept
import Derived.Test.YtmlijnekidihbaaCells
import Derived.Test.YtmlijnekidihbaaTwo
import Derived.Lib.SlBytesConst

/-
  Chapter 16, what is asked of package cache (and of a disk that holds one): as contracts, which the walks take and the program's own texts give.
-/
namespace Go.Proofs.Ytmlijnekidihbaa
open Go.RowKit

abbrev CKey := ByteArray × Int
/-- What is told under a name and a number. -/
def lookC (T : List (CKey × List UInt8)) (x : CKey) : Option (List UInt8) := (T.find? fun y => decide (y.1 = x)).map (·.2)
def tellC (o : Option (List UInt8)) : List UInt8 := o.getD []
/-- May it be kept? -/
def keptC (nm : ByteArray) (pc : Int) (b : List UInt8) : Bool := decide (1 ≤ nm.size) && decide (nm.size ≤ 40) && decide (0 ≤ pc) && decide (pc ≤ 1073741824) && decide (b.length ≤ 512)
/-- How many slots there are. -/
def limC (n : Int) : Nat := min n.toNat 64
/-- What a Put may leave. -/
def PutT (n : Nat) (ok : Bool) (nm : ByteArray) (pc : Int) (b : List UInt8) (T T' : List (CKey × List UInt8)) : Prop :=
  T'.length ≤ T.length + 1 ∧ (∀ x, x ≠ (nm, pc) → lookC T' x = lookC T x ∨ lookC T' x = none) ∧
  if keptC nm pc b = true ∧ 0 < n ∧ ok = true then lookC T' (nm, pc) = some b else lookC T' (nm, pc) = lookC T (nm, pc) ∨ lookC T' (nm, pc) = none ∨ (keptC nm pc b = true ∧ lookC T' (nm, pc) = some b)
/-- The disk's plan, as a value. -/
abbrev planV (room crash : Int) (done : Bool) (kv : Value) (names : Int) : Value := .agg #[.int .i64 room, .int .i64 crash, .bool done, kv, .int .i64 names]

/-- 'Dk D ok k G w p': the disk 'p' with the blocks 'G' has in its file nothing but pieces of 'D'; 'ok': it tells no errors; 'k' acts were done. 'Ca D n ok k G w q p T': the cache 'q' of at most 'n' pieces on it tells 'T'. -/
structure CacheC (Dk : (CKey → List UInt8 → Prop) → Bool → Nat → (Nat → Prop) → World → Nat → Prop) (Ca : (CKey → List UInt8 → Prop) → Nat → Bool → Nat → (Nat → Prop) → World → Nat → Nat → List (CKey × List UInt8) → Prop) : Prop where
  dlt : ∀ {D ok k G w p}, Dk D ok k G w p → ∀ j, G j → j < w.heap.size
  dkept : ∀ {D ok k G R w w' p}, Dk D ok k G w p → Kept R w w' → (∀ j, G j → R j) → Dk D ok k G w' p
  lt : ∀ {D n ok k G w q p T}, Ca D n ok k G w q p T → ∀ j, G j → j < w.heap.size
  kept : ∀ {D n ok k G R w w' q p T}, Ca D n ok k G w q p T → Kept R w w' → (∀ j, G j → R j) → Ca D n ok k G w' q p T
  disk : ∀ {D n ok k G w q p T}, Ca D n ok k G w q p T → Dk D false k G w p
  few : ∀ {D n ok k G w q p T}, Ca D n ok k G w q p T → T.length ≤ n ∧ ∀ x b, lookC T x = some b → D x b
  new_ : ∀ (D : CKey → List UInt8 → Prop) (w : World) (room crash names : Int) (done : Bool) (kv : Value), 0 ≤ room → room ≤ 1048576 → crash ≤ 1000 →
    Calls Try.prog 10 #[planV room crash done kv names] w fun e w' => ∃ p G, e = .returned (.pointer (some ⟨p, 0, none⟩)) ∧ Dk D (decide (crash < 1) && decide (room = 1048576)) 0 G w' p ∧ (∀ j, G j → w.heap.size ≤ j) ∧ Below w.heap.size w w'
  fall : ∀ {D ok k G w p}, Dk D ok k G w p → k ≤ 150 → ∀ (kb : Nat) (x names : Int), w.heap[kb]? = some (.cells #[.int .i64 x] 3 (0, 0)) → ¬ G kb → 0 ≤ x → x ≤ 1000000 → 0 ≤ names → names ≤ 1000 →
    Calls Try.prog 16 #[.pointer (some ⟨p, 0, none⟩), planV 1048576 0 false (.slice (some ⟨kb, 0, none⟩) 1 1) names] w fun e w' => e = .returned (.tuple #[]) ∧ ∃ ok' G', Dk D ok' (k + 1) G' w' p ∧ Touch G w w' ∧ Grows G G' w w'
  open_ : ∀ {D ok k G w p}, Dk D ok k G w p → k ≤ 150 → ∀ n : Int, (Lit.int .i64 n).wf = true →
    Calls Try.prog 9 #[.pointer (some ⟨p, 0, none⟩), .int .i64 n] w fun e w' => ∃ q T G', e = .returned (.pointer (some ⟨q, 0, none⟩)) ∧ Ca D (limC n) ok (k + 1) G' w' q p T ∧ (k = 0 → T = []) ∧ Touch G w w' ∧ Grows G G' w w'
  again : ∀ {D n k G w q p T}, Ca D n true k G w q p T → k ≤ 150 → ∀ m : Int, limC m = n → (Lit.int .i64 m).wf = true →
    Calls Try.prog 9 #[.pointer (some ⟨p, 0, none⟩), .int .i64 m] w fun e w' => ∃ q' T' G', e = .returned (.pointer (some ⟨q', 0, none⟩)) ∧ Ca D n true (k + 1) G' w' q' p T' ∧ T'.length = T.length ∧ (∀ x, lookC T' x = lookC T x) ∧ Touch G w w' ∧ Grows G G' w w'
  put : ∀ {D n ok k G w q p T}, Ca D n ok k G w q p T → k ≤ 150 → ∀ (nm : ByteArray) (pc : Int) (v : Value) (b : List UInt8), RdB w v b → (∀ j, v.ownBlock = some j → ¬ G j) → D (nm, pc) b → nm.size ≤ 1000 → (Lit.int .i64 pc).wf = true → b.length ≤ 1000 →
    Calls Try.prog 14 #[.pointer (some ⟨q, 0, none⟩), .string nm, .int .i64 pc, v] w fun e w' => e = .returned (.tuple #[]) ∧ ∃ T' G', Ca D n ok (k + 1) G' w' q p T' ∧ PutT n ok nm pc b T T' ∧ Touch G w w' ∧ Grows G G' w w'
  get : ∀ {D n ok k G w q p T}, Ca D n ok k G w q p T → k ≤ 150 → ∀ (nm : ByteArray) (pc : Int), nm.size ≤ 1000 → (Lit.int .i64 pc).wf = true →
    Calls Try.prog 11 #[.pointer (some ⟨q, 0, none⟩), .string nm, .int .i64 pc] w fun e w' => ∃ x, e = .returned (.tuple #[x, .bool (lookC T (nm, pc)).isSome]) ∧ RdB w' x (tellC (lookC T (nm, pc))) ∧ ∃ T' G', Ca D n ok (k + 1) G' w' q p T' ∧ (ok = true → T'.length = T.length ∧ ∀ y, lookC T' y = lookC T y) ∧ (∀ y, lookC T' y = lookC T y ∨ lookC T' y = none) ∧ (∀ j, x.ownBlock = some j → ¬ G' j) ∧ Touch G w w' ∧ Grows G G' w w'
  len : ∀ {D n ok k G w q p T}, Ca D n ok k G w q p T → Calls Try.prog 15 #[.pointer (some ⟨q, 0, none⟩)] w fun e w' => ∃ m : Nat, e = .returned (.int .i64 (m : Int)) ∧ m ≤ n ∧ (ok = true → m = T.length) ∧ Below w.heap.size w w'
  nput : ∀ w (nm : ByteArray) (pc : Int) (v : Value), Calls Try.prog 14 #[.pointer none, .string nm, .int .i64 pc, v] w fun e w' => e = .returned (.tuple #[]) ∧ Below w.heap.size w w'
  nget : ∀ w (nm : ByteArray) (pc : Int), Calls Try.prog 11 #[.pointer none, .string nm, .int .i64 pc] w fun e w' => e = .returned (.tuple #[.slice none 0 0, .bool false]) ∧ Below w.heap.size w w'
  nlen : ∀ w, Calls Try.prog 15 #[.pointer none] w fun e w' => e = .returned (.int .i64 0) ∧ Below w.heap.size w w'

section
variable {Dk : (CKey → List UInt8 → Prop) → Bool → Nat → (Nat → Prop) → World → Nat → Prop} {Ca : (CKey → List UInt8 → Prop) → Nat → Bool → Nat → (Nat → Prop) → World → Nat → Nat → List (CKey × List UInt8) → Prop}
variable {D : CKey → List UInt8 → Prop} {n k q p : Nat} {ok : Bool} {W w w' : World} {T : List (CKey × List UInt8)}
/-- A disk, a cache of the statement's own: what was there ahead, below 'W', is as it was. -/
def DkW (Dk : (CKey → List UInt8 → Prop) → Bool → Nat → (Nat → Prop) → World → Nat → Prop) (D : CKey → List UInt8 → Prop) (ok : Bool) (k : Nat) (W w : World) (p : Nat) : Prop := ∃ G, Dk D ok k G w p ∧ (∀ j, G j → W.heap.size ≤ j) ∧ Below W.heap.size W w
def CaW (Ca : (CKey → List UInt8 → Prop) → Nat → Bool → Nat → (Nat → Prop) → World → Nat → Nat → List (CKey × List UInt8) → Prop) (D : CKey → List UInt8 → Prop) (n : Nat) (ok : Bool) (k : Nat) (W w : World) (q p : Nat) (T : List (CKey × List UInt8)) : Prop := ∃ G, Ca D n ok k G w q p T ∧ (∀ j, G j → W.heap.size ≤ j) ∧ Below W.heap.size W w
theorem caW_of {G G' : Nat → Prop} (hi : Ca D n ok k G' w' q p T) (hG : ∀ j, G j → W.heap.size ≤ j) (hb : Below W.heap.size W w) (ht : Touch G w w') (hg : Grows G G' w w') : CaW Ca D n ok k W w' q p T :=
  ⟨G', hi, fun j hj => (hg j hj).elim (hG j) fun h => Nat.le_trans hb.size h.1, hb.trans (Kept.below ht fun j hj => ⟨Nat.lt_of_lt_of_le hj hb.size, fun hf => by have := hG j hf; omega⟩)⟩
theorem dkW_of {G G' : Nat → Prop} (hi : Dk D ok k G' w' p) (hG : ∀ j, G j → W.heap.size ≤ j) (hb : Below W.heap.size W w) (ht : Touch G w w') (hg : Grows G G' w w') : DkW Dk D ok k W w' p :=
  ⟨G', hi, fun j hj => (hg j hj).elim (hG j) fun h => Nat.le_trans hb.size h.1, hb.trans (Kept.below ht fun j hj => ⟨Nat.lt_of_lt_of_le hj hb.size, fun hf => by have := hG j hf; omega⟩)⟩
theorem CaW.below (h : CaW Ca D n ok k W w q p T) : Below W.heap.size W w := by obtain ⟨_, _, _, h⟩ := h; exact h
theorem DkW.below (h : DkW Dk D ok k W w p) : Below W.heap.size W w := by obtain ⟨_, _, _, h⟩ := h; exact h
theorem CaW.then_ (hi : CacheC Dk Ca) (h : CaW Ca D n ok k W w q p T) (hb : Below w.heap.size w w') : CaW Ca D n ok k W w' q p T := by
  obtain ⟨G, h1, h2, h3⟩ := h
  exact ⟨G, hi.kept (R := fun j => j < w.heap.size) h1 (Kept.of hb fun _ h => h) (hi.lt h1), h2, belowT h3 hb⟩
theorem DkW.then_ (hi : CacheC Dk Ca) (h : DkW Dk D ok k W w p) (hb : Below w.heap.size w w') : DkW Dk D ok k W w' p := by
  obtain ⟨G, h1, h2, h3⟩ := h
  exact ⟨G, hi.dkept (R := fun j => j < w.heap.size) h1 (Kept.of hb fun _ h => h) (hi.dlt h1), h2, belowT h3 hb⟩
theorem CaW.disk (hi : CacheC Dk Ca) (h : CaW Ca D n ok k W w q p T) : DkW Dk D false k W w p := by
  obtain ⟨G, h1, h2, h3⟩ := h
  exact ⟨G, hi.disk h1, h2, h3⟩
theorem CaW.few (hi : CacheC Dk Ca) (h : CaW Ca D n ok k W w q p T) : T.length ≤ n ∧ ∀ x b, lookC T x = some b → D x b := by
  obtain ⟨G, h1, _⟩ := h
  exact hi.few h1
theorem caw_new (hi : CacheC Dk Ca) (D : CKey → List UInt8 → Prop) (hb : Below W.heap.size W w) (room crash names : Int) (done : Bool) (kv : Value) (h1 : 0 ≤ room) (h2 : room ≤ 1048576) (h3 : crash ≤ 1000) (ok : Bool) (hok : (decide (crash < 1) && decide (room = 1048576)) = ok) :
    Calls Try.prog 10 #[planV room crash done kv names] w fun e w' => ∃ p, e = .returned (.pointer (some ⟨p, 0, none⟩)) ∧ DkW Dk D ok 0 W w' p := by
  subst hok
  exact (hi.new_ D w room crash names done kv h1 h2 h3).mono fun _ _ ⟨p, G, h4, h5, h6, h7⟩ => ⟨p, h4, G, h5, fun j hj => Nat.le_trans hb.size (h6 j hj), belowT hb h7⟩
theorem caw_open (hi : CacheC Dk Ca) (h : DkW Dk D ok k W w p) (hk : k ≤ 150) (m : Int) (hm : (Lit.int .i64 m).wf = true) :
    Calls Try.prog 9 #[.pointer (some ⟨p, 0, none⟩), .int .i64 m] w fun e w' => ∃ q T, e = .returned (.pointer (some ⟨q, 0, none⟩)) ∧ CaW Ca D (limC m) ok (k + 1) W w' q p T ∧ (k = 0 → T = []) := by
  obtain ⟨G, h1, h2, h3⟩ := h
  exact (hi.open_ h1 hk m hm).mono fun e w' ⟨q, T, G', h4, h5, h6, h7, h8⟩ => ⟨q, T, h4, caW_of h5 h2 h3 h7 h8, h6⟩
theorem caw_fresh (hi : CacheC Dk Ca) (h : DkW Dk D ok 0 W w p) (m : Int) (hm : (Lit.int .i64 m).wf = true) :
    Calls Try.prog 9 #[.pointer (some ⟨p, 0, none⟩), .int .i64 m] w fun e w' => ∃ q, e = .returned (.pointer (some ⟨q, 0, none⟩)) ∧ CaW Ca D (limC m) ok 1 W w' q p [] :=
  (caw_open hi h (Nat.zero_le _) m hm).mono fun _ _ ⟨q, _, h1, h2, h3⟩ => ⟨q, h1, by rw [h3 rfl] at h2; exact h2⟩
theorem caw_put (hi : CacheC Dk Ca) (h : CaW Ca D n ok k W w q p T) (hk : k ≤ 150) (nm : ByteArray) (pc : Int) (v : Value) (b : List UInt8) {w0 : World} (hb0 : Below w.heap.size w w0) (hr : RdB w0 v b) (hv : ∀ j, v.ownBlock = some j → w.heap.size ≤ j) (hD : D (nm, pc) b) (hn : nm.size ≤ 1000) (hp : (Lit.int .i64 pc).wf = true) (hl : b.length ≤ 1000) :
    Calls Try.prog 14 #[.pointer (some ⟨q, 0, none⟩), .string nm, .int .i64 pc, v] w0 fun e w' => e = .returned (.tuple #[]) ∧ ∃ T', CaW Ca D n ok (k + 1) W w' q p T' ∧ PutT n ok nm pc b T T' := by
  obtain ⟨G, h1, h2, h3⟩ := h
  have h4 := hi.kept (R := fun j => j < w.heap.size) h1 (Kept.of hb0 fun _ h => h) (hi.lt h1)
  exact (hi.put h4 hk nm pc v b hr (fun j hj hg => by have := hi.lt h1 j hg; have := hv j hj; omega) hD hn hp hl).mono fun e w' ⟨h5, T', G', h6, h7, h8, h9⟩ => ⟨h5, T', caW_of h6 h2 (belowT h3 hb0) h8 h9, h7⟩
theorem caw_get (hi : CacheC Dk Ca) (h : CaW Ca D n ok k W w q p T) (hk : k ≤ 150) (nm : ByteArray) (pc : Int) (hn : nm.size ≤ 1000) (hp : (Lit.int .i64 pc).wf = true) :
    Calls Try.prog 11 #[.pointer (some ⟨q, 0, none⟩), .string nm, .int .i64 pc] w fun e w' => ∃ x, e = .returned (.tuple #[x, .bool (lookC T (nm, pc)).isSome]) ∧ RdB w' x (tellC (lookC T (nm, pc))) ∧ ∃ T', CaW Ca D n ok (k + 1) W w' q p T' ∧ (ok = true → T'.length = T.length ∧ ∀ y, lookC T' y = lookC T y) ∧ ∀ y, lookC T' y = lookC T y ∨ lookC T' y = none := by
  obtain ⟨G, h1, h2, h3⟩ := h
  exact (hi.get h1 hk nm pc hn hp).mono fun e w' ⟨x, h4, h5, T', G', h6, h7, h8, _, h9, h10⟩ => ⟨x, h4, h5, T', caW_of h6 h2 h3 h9 h10, h7, h8⟩
theorem caw_len (hi : CacheC Dk Ca) (h : CaW Ca D n ok k W w q p T) : Calls Try.prog 15 #[.pointer (some ⟨q, 0, none⟩)] w fun e w' => ∃ m : Nat, e = .returned (.int .i64 (m : Int)) ∧ m ≤ n ∧ (ok = true → m = T.length) ∧ CaW Ca D n ok k W w' q p T := by
  have h0 := h
  obtain ⟨G, h1, h2, h3⟩ := h
  exact (hi.len h1).mono fun _ _ ⟨m, h4, h5, h6, h7⟩ => ⟨m, h4, h5, h6, h0.then_ hi h7⟩
end
end Go.Proofs.Ytmlijnekidihbaa

/-
  Chapter 16: the document's example.
-/
namespace Go.Proofs.Ytmlijnekidihbaa
open Go.RowKit

theorem look_one {x : CKey} {b : List UInt8} {T : List (CKey × List UInt8)} (h : lookC T x = some b) : 0 < T.length := by
  cases T with
  | nil => simp [lookC] at h
  | cons => simp
theorem xy_read (w : World) : RdB (w.alloc (.cells #[.int .u8 120, .int .u8 121] 5 (2, 3))) (.slice (some ⟨w.heap.size, 0, none⟩) 2 2) [120, 121] :=
  ⟨_, 2, rfl, Nat.le_refl _, by unfold maxLen; omega, rfl, .inr ⟨w.heap.size, 0, rfl, by simp, fun j u hj => by rw [Nat.zero_add, World.cell?_alloc_mark]; simpa [bv] using hj⟩⟩
theorem caw_put_xy {Dk : (CKey → List UInt8 → Prop) → Bool → Nat → (Nat → Prop) → World → Nat → Prop} {Ca : (CKey → List UInt8 → Prop) → Nat → Bool → Nat → (Nat → Prop) → World → Nat → Nat → List (CKey × List UInt8) → Prop} (hi : CacheC Dk Ca) {W w : World} {q p : Nat} (h : CaW Ca (fun _ _ => True) 4 true 1 W w q p []) :
    Calls Try.prog 14 #[.pointer (some ⟨q, 0, none⟩), .string ⟨#[97]⟩, .int .i64 3, .slice (some ⟨w.heap.size, 0, none⟩) 2 2] (w.alloc (.cells #[.int .u8 120, .int .u8 121] 5 (2, 3))) fun e w' => e = .returned (.tuple #[]) ∧ ∃ T', CaW Ca (fun _ _ => True) 4 true 2 W w' q p T' ∧ lookC T' (⟨#[97]⟩, 3) = some [120, 121] ∧ T'.length = 1 :=
  (caw_put hi h (by omega) ⟨#[97]⟩ 3 _ [120, 121] ((Below.refl _ _).alloc (Nat.le_refl _) _) (xy_read w) (fun j hj => by cases hj; exact Nat.le_refl _) trivial (by decide) (by decide) (by decide)).mono fun _ _ ⟨h1, T', h2, h3, _, h4⟩ => by
    have h5 : lookC T' (⟨#[97]⟩, 3) = some [120, 121] := by rwa [if_pos ⟨by decide, by omega, rfl⟩] at h4
    exact ⟨h1, T', h2, h5, by have := look_one h5; simp at h3; omega⟩
theorem caw_get_xy {Dk : (CKey → List UInt8 → Prop) → Bool → Nat → (Nat → Prop) → World → Nat → Prop} {Ca : (CKey → List UInt8 → Prop) → Nat → Bool → Nat → (Nat → Prop) → World → Nat → Nat → List (CKey × List UInt8) → Prop} (hi : CacheC Dk Ca) {W w : World} {q p : Nat} {T : List (CKey × List UInt8)} (h : CaW Ca (fun _ _ => True) 4 true 2 W w q p T) (ht : lookC T (⟨#[97]⟩, 3) = some [120, 121]) (hl : T.length = 1) :
    Calls Try.prog 11 #[.pointer (some ⟨q, 0, none⟩), .string ⟨#[97]⟩, .int .i64 3] w fun e w' => ∃ a c, e = .returned (.tuple #[.slice a 2 c, .bool true]) ∧ (convert 22 9 (.slice a 2 c)).run Try.prog w' = .ok (.string ⟨#[120, 121]⟩) w' ∧ ∃ T', CaW Ca (fun _ _ => True) 4 true 3 W w' q p T' ∧ T'.length = 1 :=
  (caw_get hi h (by omega) ⟨#[97]⟩ 3 (by decide) (by decide)).mono fun _ _ ⟨x, h1, h2, T', h3, h4, _⟩ => by
    rw [ht] at h1 h2
    obtain ⟨a, c, rfl, _, _⟩ := h2.form
    exact ⟨a, c, h1, rdB_convert h2 22 5 9 Try.underlying22 Try.underlying5 Try.underlying9, T', h3, (h4 rfl).1.trans hl⟩

theorem caw_len_xy {Dk : (CKey → List UInt8 → Prop) → Bool → Nat → (Nat → Prop) → World → Nat → Prop} {Ca : (CKey → List UInt8 → Prop) → Nat → Bool → Nat → (Nat → Prop) → World → Nat → Nat → List (CKey × List UInt8) → Prop} (hi : CacheC Dk Ca) {W w : World} {q p : Nat} {T : List (CKey × List UInt8)} (h : CaW Ca (fun _ _ => True) 4 true 3 W w q p T) (hl : T.length = 1) :
    Calls Try.prog 15 #[.pointer (some ⟨q, 0, none⟩)] w fun e w' => e = .returned (.int .i64 1) ∧ Below W.heap.size W w' :=
  (caw_len hi h).mono fun _ _ ⟨m, h1, _, h3, h4⟩ => ⟨by rw [h1, h3 rfl, hl]; rfl, h4.below⟩

set_option maxRecDepth 100000 in
set_option maxHeartbeats 1000000 in
theorem awake16_any {Dk : (CKey → List UInt8 → Prop) → Bool → Nat → (Nat → Prop) → World → Nat → Prop} {Ca : (CKey → List UInt8 → Prop) → Nat → Bool → Nat → (Nat → Prop) → World → Nat → Nat → List (CKey × List UInt8) → Prop} (hi : CacheC Dk Ca) (W : World) :
    Calls Try.prog 8 #[] W fun e w' => e = .returned (.bool true) ∧ Below W.heap.size W w' := by
  have HI := Lib.hid hi
  have HN := Lib.hid (caw_new hi (fun _ _ => True) (Below.refl W.heap.size W) 1048576 0 0 false (.slice none 0 0) (by omega) (by omega) (by omega) true rfl)
  clear hi
  go_enter Try.func8, Try.ntmps8
  have hcv := fun (w : World) (C : Array Value) (n c : Nat) => Lib.run_convert_bytes_const (P := Try.prog) w 22 5 C n c Try.underlying22 Try.underlying5
  go_wp2_with (first | (go_at_call 10; (refine HN.out.mono ?_); rintro e w1 ⟨p, rfl, hd⟩; have HD := Lib.hid (caw_fresh HI.out hd 4 (by decide)); clear hd) | (go_at_call 9; (refine HD.out.mono ?_); rintro e w2 ⟨q, rfl, hc⟩; have HC := Lib.hid hc; clear hc) | (go_at_call 14; (refine (caw_put_xy HI.out HC.out).mono ?_); rintro e w3 ⟨rfl, T, hc3, ht3, hl3⟩; have HG := Lib.hid (caw_get_xy HI.out hc3 ht3 hl3); clear hc3 ht3 hl3) | (go_at_call 11; (refine HG.out.mono ?_); rintro e w4 ⟨a, c, rfl, hs4, T4, hc4, hl4⟩; have HL := Lib.hid (caw_len_xy HI.out hc4 hl4); clear hc4 hl4) | (go_at_call 15; (refine HL.out.mono ?_); rintro e w5 ⟨rfl, hb5⟩; have HB5 := Lib.hid hb5; clear hb5))
  go_ret
  exact ⟨rfl, HB5.out⟩
end Go.Proofs.Ytmlijnekidihbaa
