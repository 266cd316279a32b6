/-
  Check sums as numbers: plain facts on lists of bytes and numbers; nothing of the program.
-/
import Derived.WalkKit
namespace Go.Proofs.Ytmlijnekidihbaa

/-- The polynomial, its bits turned round. -/
def poly : Nat := 0x82f63b78

/-- One bit of a check sum. -/
def st1 (c : Nat) : Nat := c / 2 ^^^ (if c % 2 = 1 then poly else 0)

/-- So many bits. -/
def stN : Nat → Nat → Nat
  | 0, c => c
  | n + 1, c => stN n (st1 c)

/-- One byte. -/
def crcB (c : Nat) (b : UInt8) : Nat := stN 8 (c ^^^ b.toNat)

/-- All bytes. -/
def crcL (c : Nat) (l : List UInt8) : Nat := l.foldl crcB c

/-- The sum of bytes. -/
def sumL (l : List UInt8) : Nat := crcL 4294967295 l ^^^ 4294967295

theorem xor_half (a b : Nat) : (a ^^^ b) / 2 = a / 2 ^^^ b / 2 := by
  have := Nat.shiftRight_xor_distrib (a := a) (b := b) (i := 1)
  simpa [Nat.shiftRight_eq_div_pow] using this

theorem xor_low (a b : Nat) : (a ^^^ b) % 2 = (a % 2 + b % 2) % 2 := by
  have h := Nat.testBit_xor a b 0
  simp only [Nat.testBit_zero] at h
  rcases Nat.mod_two_eq_zero_or_one a with h1 | h1 <;> rcases Nat.mod_two_eq_zero_or_one b with h2 | h2 <;> rcases Nat.mod_two_eq_zero_or_one (a ^^^ b) with h3 | h3 <;> simp [h1, h2, h3] at h ⊢

theorem xor_zero_eq {a b : Nat} (h : a ^^^ b = 0) : a = b := by
  apply Nat.eq_of_testBit_eq
  intro i
  have := Nat.testBit_xor a b i
  rw [h, Nat.zero_testBit] at this
  cases ha : a.testBit i <;> cases hb : b.testBit i <;> simp [ha, hb] at this ⊢

theorem st1_xor (a b : Nat) : st1 (a ^^^ b) = st1 a ^^^ st1 b := by
  unfold st1
  rw [xor_half, xor_low]
  rcases Nat.mod_two_eq_zero_or_one a with h | h <;> rcases Nat.mod_two_eq_zero_or_one b with h' | h' <;> simp [h, h']
  · rw [Nat.xor_assoc]
  · rw [Nat.xor_assoc, Nat.xor_assoc, Nat.xor_comm poly]
  · have : a / 2 ^^^ poly ^^^ (b / 2 ^^^ poly) = a / 2 ^^^ b / 2 ^^^ (poly ^^^ poly) := by
      rw [Nat.xor_assoc, Nat.xor_assoc, ← Nat.xor_assoc poly, Nat.xor_comm poly, Nat.xor_assoc]
    rw [this, Nat.xor_self, Nat.xor_zero]

theorem st1_lt (c : Nat) (h : c < 2 ^ 32) : st1 c < 2 ^ 32 := by
  unfold st1
  refine Nat.xor_lt_two_pow (by omega) ?_
  split
  · decide
  · decide

/-- What is not nought stays so. -/
theorem st1_ne (c : Nat) (hc : c < 2 ^ 32) (h : c ≠ 0) : st1 c ≠ 0 := by
  intro e
  unfold st1 at e
  have e' := xor_zero_eq e
  split at e'
  · unfold poly at e'; omega
  · omega

theorem stN_xor : ∀ (n a b : Nat), stN n (a ^^^ b) = stN n a ^^^ stN n b
  | 0, _, _ => rfl
  | n + 1, a, b => by rw [stN, st1_xor, stN_xor n]; rfl

theorem stN_lt : ∀ (n c : Nat), c < 2 ^ 32 → stN n c < 2 ^ 32
  | 0, _, h => h
  | n + 1, c, h => stN_lt n _ (st1_lt c h)

theorem stN_ne : ∀ (n c : Nat), c < 2 ^ 32 → c ≠ 0 → stN n c ≠ 0
  | 0, _, _, h => h
  | n + 1, c, hc, h => stN_ne n _ (st1_lt c hc) (st1_ne c hc h)

theorem stN_add : ∀ (m n c : Nat), stN (m + n) c = stN n (stN m c)
  | 0, n, c => by rw [Nat.zero_add]; rfl
  | m + 1, n, c => by rw [Nat.add_right_comm, stN, stN_add m n]; rfl

theorem stN_zero : ∀ n, stN n 0 = 0
  | 0 => rfl
  | n + 1 => by rw [stN]; exact stN_zero n

/-- Bits above the lowest ones come down. -/
theorem stN_up (n c : Nat) : stN n (c * 2 ^ n) = c := by
  induction n generalizing c with
  | zero => simp [stN]
  | succ n ih =>
    have e : st1 (c * 2 ^ (n + 1)) = c * 2 ^ n := by
      unfold st1
      have h1 : c * 2 ^ (n + 1) = 2 * (c * 2 ^ n) := by rw [Nat.pow_succ, ← Nat.mul_assoc, Nat.mul_comm]
      rw [h1, if_neg (by omega), Nat.xor_zero]
      omega
    rw [stN, e, ih]

theorem crcB_lt (c : Nat) (b : UInt8) (h : c < 2 ^ 32) : crcB c b < 2 ^ 32 := stN_lt _ _ (Nat.xor_lt_two_pow h (by have := b.toNat_lt; omega))

theorem crcL_lt : ∀ (l : List UInt8) (c : Nat), c < 2 ^ 32 → crcL c l < 2 ^ 32
  | [], _, h => h
  | b :: l, c, h => crcL_lt l _ (crcB_lt c b h)

theorem crcL_append (c : Nat) (l r : List UInt8) : crcL c (l ++ r) = crcL (crcL c l) r := by simp [crcL]

theorem sumL_lt (l : List UInt8) : sumL l < 2 ^ 32 := Nat.xor_lt_two_pow (crcL_lt l _ (by decide)) (by decide)

/-- Three put one over another. -/
def zip3 : List UInt8 → List UInt8 → List UInt8 → List UInt8
  | a :: x, b :: y, c :: z => (a ^^^ b ^^^ c) :: zip3 x y z
  | _, _, _ => []

theorem xor3 (a b c x y z : Nat) : (a ^^^ x) ^^^ (b ^^^ y) ^^^ (c ^^^ z) = (a ^^^ b ^^^ c) ^^^ (x ^^^ y ^^^ z) := by
  apply Nat.eq_of_testBit_eq
  intro i
  simp only [Nat.testBit_xor]
  cases a.testBit i <;> cases b.testBit i <;> cases c.testBit i <;> cases x.testBit i <;> cases y.testBit i <;> cases z.testBit i <;> rfl

theorem crcL_zip3 : ∀ (l m n : List UInt8) (a b c : Nat), l.length = m.length → m.length = n.length → crcL a l ^^^ crcL b m ^^^ crcL c n = crcL (a ^^^ b ^^^ c) (zip3 l m n)
  | [], [], [], _, _, _, _, _ => rfl
  | x :: l, y :: m, z :: n, a, b, c, h1, h2 => by
    have ih := crcL_zip3 l m n (crcB a x) (crcB b y) (crcB c z) (by simpa using h1) (by simpa using h2)
    have e : crcB a x ^^^ crcB b y ^^^ crcB c z = crcB (a ^^^ b ^^^ c) (x ^^^ y ^^^ z) := by
      unfold crcB
      rw [← stN_xor, ← stN_xor, xor3]
      simp
    rw [e] at ih
    exact ih

theorem sumL_zip3 (l m n : List UInt8) (h1 : l.length = m.length) (h2 : m.length = n.length) : sumL l ^^^ sumL m ^^^ sumL n = sumL (zip3 l m n) := by
  unfold sumL
  rw [xor3, crcL_zip3 l m n _ _ _ h1 h2]
  rfl

/-- Bytes as one number, the first one lowest. -/
def numL : List UInt8 → Nat
  | [] => 0
  | x :: r => x.toNat ^^^ numL r * 256

theorem xor_shift {x y : Nat} (hx : x < 256) : x ^^^ y * 256 = y * 256 + x := by
  have h := nat_join 8 (y * 256) x (by omega) hx
  have h2 : x ^^^ y * 256 = y * 256 ||| x := by
    apply Nat.eq_of_testBit_eq
    intro i
    simp only [Nat.testBit_xor, Nat.testBit_or]
    rcases Nat.lt_or_ge i 8 with hi | hi
    · have : (y * 256).testBit i = false := by
        rw [show y * 256 = y * 2 ^ 8 from rfl, Nat.testBit_mul_two_pow]
        simp
        omega
      rw [this]; simp
    · have : x.testBit i = false := Nat.testBit_lt_two_pow (Nat.lt_of_lt_of_le hx (show 2 ^ 8 ≤ 2 ^ i from Nat.pow_le_pow_right (by omega) hi))
      rw [this]; simp
  rw [h2, h]

theorem numL_cons (x : UInt8) (r : List UInt8) : numL (x :: r) = numL r * 256 + x.toNat := xor_shift x.toNat_lt

theorem numL_lt : ∀ l : List UInt8, numL l < 256 ^ l.length
  | [] => by simp [numL]
  | x :: r => by
    have := numL_lt r
    have := x.toNat_lt
    rw [numL_cons, List.length_cons, Nat.pow_succ]
    omega

theorem numL_inj : ∀ l m : List UInt8, l.length = m.length → numL l = numL m → l = m
  | [], [], _, _ => rfl
  | x :: l, y :: m, h, e => by
    rw [numL_cons, numL_cons] at e
    have := x.toNat_lt
    have := y.toNat_lt
    have e1 : x = y := UInt8.toNat_inj.1 (by omega)
    subst e1
    rw [numL_inj l m (by simpa using h) (by omega)]

theorem crcL_num : ∀ (l : List UInt8) (c : Nat), crcL c l = stN (8 * l.length) (c ^^^ numL l)
  | [], c => by simp [crcL, numL, stN]
  | x :: r, c => by
    have ih := crcL_num r (crcB c x)
    have e : crcB c x ^^^ numL r = stN 8 (c ^^^ numL (x :: r)) := by
      have h := stN_up 8 (numL r)
      unfold crcB
      conv => lhs; rw [← h]
      rw [← stN_xor, numL, Nat.xor_assoc]
    show crcL (crcB c x) r = _
    rw [ih, e, ← stN_add, List.length_cons]
    congr 1
    omega

theorem crcB_same (c d : Nat) (b : UInt8) : crcB c b ^^^ crcB d b = stN 8 (c ^^^ d) := by
  unfold crcB
  rw [← stN_xor]
  congr 1
  apply Nat.eq_of_testBit_eq
  intro i
  simp only [Nat.testBit_xor]
  cases c.testBit i <;> cases d.testBit i <;> cases b.toNat.testBit i <;> rfl

theorem crcL_same : ∀ (l : List UInt8) (c d : Nat), c < 2 ^ 32 → d < 2 ^ 32 → c ≠ d → crcL c l ≠ crcL d l
  | [], _, _, _, _, h => h
  | b :: l, c, d, hc, hd, h => by
    refine crcL_same l _ _ (crcB_lt c b hc) (crcB_lt d b hd) ?_
    intro e
    have h1 := crcB_same c d b
    rw [e, Nat.xor_self] at h1
    exact stN_ne 8 (c ^^^ d) (Nat.xor_lt_two_pow hc hd) (fun h2 => h (xor_zero_eq h2)) h1.symm

/-- Where up to four bytes side by side differ the sums differ. -/
theorem sumL_turned (p l m r : List UInt8) (hl : l.length = m.length) (h4 : l.length ≤ 4) (hne : l ≠ m) : sumL (p ++ l ++ r) ≠ sumL (p ++ m ++ r) := by
  intro h
  have h0 : crcL 4294967295 (p ++ l ++ r) = crcL 4294967295 (p ++ m ++ r) := by
    unfold sumL at h
    have := congrArg (· ^^^ 4294967295) h
    simpa [Nat.xor_assoc] using this
  rw [crcL_append, crcL_append, crcL_append, crcL_append] at h0
  have hs : crcL 4294967295 p < 2 ^ 32 := crcL_lt p _ (by decide)
  generalize crcL 4294967295 p = s at *
  refine crcL_same r _ _ (crcL_lt l _ hs) (crcL_lt m _ hs) ?_ h0
  intro e
  rw [crcL_num, crcL_num, ← hl] at e
  have hp : (256 : Nat) ^ l.length ≤ 256 ^ 4 := Nat.pow_le_pow_right (by omega) h4
  have hl1 := numL_lt l
  have hm1 := numL_lt m
  rw [← hl] at hm1
  have hd : numL l ^^^ numL m ≠ 0 := fun e2 => hne (numL_inj l m hl (xor_zero_eq e2))
  have hx := stN_xor (8 * l.length) (s ^^^ numL l) (s ^^^ numL m)
  rw [e, Nat.xor_self] at hx
  have e3 : (s ^^^ numL l) ^^^ (s ^^^ numL m) = numL l ^^^ numL m := by
    apply Nat.eq_of_testBit_eq
    intro i
    simp only [Nat.testBit_xor]
    cases s.testBit i <;> cases (numL l).testBit i <;> cases (numL m).testBit i <;> rfl
  rw [e3] at hx
  exact stN_ne _ _ (Nat.xor_lt_two_pow (by omega) (by omega)) hd hx

/-- One byte of a hash. -/
def hashB (h : Nat) (b : UInt8) : Nat := (h ^^^ b.toNat) * 16777619 % 4294967296

/-- The hash of a text. -/
def hashG (h : Nat) (l : List UInt8) : Nat := l.foldl hashB h
def hashL (l : List UInt8) : Nat := hashG 2166136261 l

theorem hashG_snoc (h : Nat) (l : List UInt8) (b : UInt8) : hashG h (l ++ [b]) = hashB (hashG h l) b := by
  unfold hashG
  rw [List.foldl_append, List.foldl_cons, List.foldl_nil]

theorem hashL_snoc (l : List UInt8) (b : UInt8) : hashL (l ++ [b]) = hashB (hashL l) b := hashG_snoc _ l b

theorem hashB_lt (h : Nat) (b : UInt8) : hashB h b < 4294967296 := by
  unfold hashB
  generalize (h ^^^ b.toNat) * 16777619 = x
  exact Nat.mod_lt x (by decide)

theorem hashG_lt (h : Nat) (hh : h < 4294967296) (l : List UInt8) : hashG h l < 4294967296 := by
  rcases List.eq_nil_or_concat l with rfl | ⟨r, b, rfl⟩
  · exact hh
  · rw [List.concat_eq_append, hashG_snoc]; exact hashB_lt _ _

theorem hashL_lt (l : List UInt8) : hashL l < 4294967296 := hashG_lt _ (by decide) l
end Go.Proofs.Ytmlijnekidihbaa
