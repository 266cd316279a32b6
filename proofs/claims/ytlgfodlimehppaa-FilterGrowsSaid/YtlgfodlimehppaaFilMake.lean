/-
  A filter's bytes: what the document's MakeFilter does.
-/
import Derived.Test.YtlgfodlimehppaaFilMay
namespace Go.Proofs.Ytlgfodlimehppaa
open Go.RowKit Ieee

theorem mulR_comm (a b : Nat) : mulR a b = mulR b a := by unfold mulR; rw [Nat.mul_comm]
theorem mulR_word {a n : Nat} (h1 : a < 9007199254740992) (h2 : n < 9007199254740992) : mulR (wordN a) (wordN n) = wordN (a * n) := by
  unfold mulR
  rw [(wordN_exact h1).2, (wordN_exact h2).2]
  have e : a * 2 ^ leastP * (n * 2 ^ leastP) = a * n * 2 ^ (leastP + leastP) := by
    rw [Nat.pow_add]
    generalize 2 ^ leastP = p
    simp only [Nat.mul_assoc, Nat.mul_left_comm]
  rw [e]
  by_cases h0 : a * n = 0
  · rw [h0, Nat.zero_mul, if_pos rfl]
    decide
  · have hne : a * n * 2 ^ (leastP + leastP) ≠ 0 := by
      have := Nat.mul_pos (Nat.pos_of_ne_zero h0) (Nat.two_pow_pos (leastP + leastP))
      omega
    rw [if_neg hne]
    have hr := nearest_rung double (m := a * n) (e := 0) (b := -2148) h0 (by omega) (by rw [lpD]; omega)
    have e5 : flV (-2148) (a * n) 0 = a * n * 2 ^ (leastP + leastP) := by
      unfold flV
      rw [show ((0 : Int) - -2148).toNat = leastP + leastP from by decide]
    rw [infD_eq, e5] at hr
    exact hr.symm

/-- The word of 64. -/
abbrev w64D : Nat := 4634204016564240384
theorem w64_eq : wordN 64 = w64D := by decide

/-- How many bits, as they are reckoned; how many bytes. -/
def rawM (b n : Nat) : Nat := wholeD (mulR (min b w64D) (wordN n))
def bytesM (b n : Nat) : Nat := (max 64 (rawM b n) + 7) / 8

theorem raw_facts {b n : Nat} (_h : b ≤ infD) (hn : n ≤ 100000) : min b w64D < infD ∧ double.mul (min b w64D) (wordN n) = some (mulR (min b w64D) (wordN n)) ∧ mulR (min b w64D) (wordN n) < infD ∧ rawM b n ≤ 64 * n := by
  have h1 : min b w64D < infD := by unfold w64D infD; omega
  have h2 := (wordN_exact (show n < 9007199254740992 by omega)).1
  have h3 : mulR (min b w64D) (wordN n) ≤ wordN (64 * n) := by
    rw [mulR_comm, ← mulR_word (a := 64) (n := n) (by omega) (by omega), mulR_comm (wordN 64), w64_eq]
    exact mulR_mono (Nat.min_le_right _ _)
  have h4 := (wordN_exact (show 64 * n < 9007199254740992 by omega)).1
  refine ⟨h1, mul_words h1 h2, by omega, ?_⟩
  have := wholeD_mono h3
  rw [wholeD_word (by omega)] at this
  exact this

/-- One bit is set. -/
def setBit (f : List UInt8) (x : Nat) : List UInt8 := f.set (x / 8) (UInt8.ofNat ((f.getD (x / 8) 0).toNat ||| 2 ^ (x % 8)))
def putBits (f : List UInt8) (h m n : Nat) : List UInt8 := (List.range n).foldl (fun f j => setBit f (bitX h m j)) f
def putKeys (f : List UInt8) (hs : List Nat) (m n : Nat) : List UInt8 := hs.foldl (fun f h => putBits f h m n) f
/-- The bytes of a filter of the keys with these hashes. -/
def makeL (hs : List Nat) (b : Nat) : List UInt8 := if probesW b = 0 then [] else putKeys (List.replicate (bytesM b hs.length) 0 ++ [UInt8.ofNat (probesW b)]) hs (bytesM b hs.length) (probesW b)

theorem setBit_len (f : List UInt8) (x : Nat) : (setBit f x).length = f.length := by unfold setBit; rw [List.length_set]
theorem putBits_succ (f : List UInt8) (h m j : Nat) : putBits f h m (j + 1) = setBit (putBits f h m j) (bitX h m j) := by
  unfold putBits
  rw [List.range_succ, List.foldl_append]; rfl
theorem putBits_len (f : List UInt8) (h m j : Nat) : (putBits f h m j).length = f.length := by
  induction j with
  | zero => rfl
  | succ j ih => rw [putBits_succ, setBit_len, ih]
theorem putKeys_snoc (f : List UInt8) (hs : List Nat) (h m n : Nat) : putKeys f (hs ++ [h]) m n = putBits (putKeys f hs m n) h m n := by
  unfold putKeys
  rw [List.foldl_append]; rfl
theorem putKeys_len (m n : Nat) : ∀ (hs : List Nat) (f : List UInt8), (putKeys f hs m n).length = f.length
  | [], _ => rfl
  | h :: r, f => by
    show (putKeys (putBits f h m n) r m n).length = _
    rw [putKeys_len m n r, putBits_len]

theorem or_u8 (a b : Nat) (ha : a < 256) (hb : b < 256) : bits .or .u8 (a : Int) (b : Int) = ((a ||| b : Nat) : Int) := by
  have hx : a ||| b < 2 ^ 8 := Nat.or_lt_two_pow (n := 8) ha hb
  have o : ∀ c : Nat, c < 256 → (BitVec.ofInt 8 (c : Int)).toNat = c := by
    intro c hc
    rw [BitVec.ofInt_natCast, BitVec.toNat_ofNat]
    exact Nat.mod_eq_of_lt (by omega)
  show IntKind.u8.wrap ((BitVec.ofInt 8 (a : Int) ||| BitVec.ofInt 8 (b : Int)).toNat : Int) = _
  rw [BitVec.toNat_or, o a ha, o b hb, IntKind.wrap_u8]
  omega

theorem rd_str {w : World} {a : Option Addr} {c : Nat} {l : List ByteArray} (h : Rd w 1 (.slice a l.length c) l.length (l.map Value.string)) {k : Nat} (hk : k < l.length) : ∃ b off, a = some ⟨b, off, none⟩ ∧ b < w.heap.size ∧ w.cell? ⟨b, off + k, none⟩ = some (.string (l.getD k ⟨#[]⟩)) := by
  obtain ⟨a', cap, hv, h1, h2, h0, h3⟩ := h
  cases hv
  rcases h3 with ⟨h3, _⟩ | ⟨b, off, rfl, h4, h5⟩
  · omega
  · exact ⟨b, off, rfl, h4, h5 k _ (by rw [List.getElem?_map, List.getElem?_eq_getElem hk]; simp [List.getD, hk])⟩

/-- The hashes of the first keys. -/
def hashes (l : List ByteArray) : List Nat := l.map fun s => hashL s.data.toList

theorem probesW_le (b : Nat) : probesW b ≤ 12 := by unfold probesW; split <;> omega
theorem probesW_pos {b : Nat} (h : probesW b ≠ 0) : oneD ≤ b ∧ b ≤ infD := by
  unfold probesW at h
  split at h
  · rename_i hc; exact hc
  · exact absurd rfl h

theorem floor_words {r : Nat} (h : r < infD) (w : World) : Calls Try.prog 22 #[.float .f64 r] w fun e w' => e = .returned (.float .f64 (wordN (wholeD r))) ∧ w = w' := by
  have := floor_any (b := r) (fun s t he => by
    obtain ⟨m, i, e1, _, _⟩ := read_rung double (r := r) (by rw [infD_eq]; exact h)
    rw [e1] at he; cases he) w
  rw [floor_word h] at this
  exact this

theorem float_nat (n : Nat) : floatOfInt .f64 (n : Int) = wordN n := by
  unfold floatOfInt FloatKind.nearest FloatKind.encode
  show double.nearest (decide ((n : Int) < 0)) (n : Int).natAbs 0 = _
  rw [show decide ((n : Int) < 0) = false by simp, Int.natAbs_natCast]
  rfl

set_option maxRecDepth 100000 in
set_option maxHeartbeats 8000000 in
theorem rmake_any (v : Value) (l : List ByteArray) (b : Nat) (hb : (Lit.float .f64 b).wf = true) (w : World) (hv : Rd w 1 v l.length (l.map Value.string)) (hs : ∀ s ∈ l, s.size ≤ maxLen) (hl : l.length ≤ 100000) :
    Calls Try.prog 12 #[v, .float .f64 b] w (RetB w.heap.size w (makeL (hashes l) b)) := by
  have HP := Lib.hid (rprobes_any hb w)
  obtain ⟨va, vc, rfl, hc1, hc2⟩ : ∃ a c, v = .slice a l.length c ∧ l.length ≤ c ∧ c ≤ maxLen := by obtain ⟨a, c, h, h1, h2, _⟩ := hv; exact ⟨a, c, h, h1, h2⟩
  by_cases h0 : probesW b = 0
  · have HR := Lib.hid (show makeL (hashes l) b = [] by unfold makeL; rw [if_pos h0])
    rw [h0] at HP
    clear h0 hv
    go_enter Try.func12, Try.ntmps12
    go_wp2_with (go_at_call 10; (refine HP.out.mono ?_); rintro e w1 ⟨rfl, rfl⟩)
    go_ret
    exact ⟨_, rfl, by rw [HR.out]; exact World.ownsRow_nil _ _ _ _, Below.refl _ _⟩
  · obtain ⟨p1, p2⟩ := probesW_pos h0
    have p3 := probesW_le b
    obtain ⟨r1, r2, r3, r4⟩ := raw_facts p2 hl
    have hmk : makeL (hashes l) b = putKeys (List.replicate (bytesM b l.length) 0 ++ [UInt8.ofNat (probesW b)]) (hashes l) (bytesM b l.length) (probesW b) := by
      unfold makeL
      rw [if_neg h0, show (hashes l).length = l.length by unfold hashes; rw [List.length_map]]
    have HMK := Lib.hid hmk
    have hmin := fun ts t w => run_min_words (P := Try.prog) p2 (show w64D ≤ infD by decide) ts t w
    have hmul : ∀ (t : TypeId) (w : World), (binOp .mul t (.float .f64 (min b w64D)) (.float .f64 (wordN l.length))).run Try.prog w = .ok (.float .f64 (mulR (min b w64D) (wordN l.length))) w := fun t w => run_float_arith w .mul t .f64 _ _ _ r2
    have HF := Lib.hid (floor_words r3)
    have hcv := fun w => run_convert_float_int (P := Try.prog) w 23 3 .f64 .i64 (wordN (rawM b l.length)) _ (by kernel_rfl) Try.underlying3 (toInt_wordN (show rawM b l.length < 9007199254740992 by omega))
    have hcf := float_nat l.length
    have hM : bytesM b l.length = (max 64 (rawM b l.length) + 7) / 8 := rfl
    rw [show wholeD (mulR (min b w64D) (wordN l.length)) = rawM b l.length from rfl] at HF
    generalize mulR (min b w64D) (wordN l.length) = r at *
    generalize min b w64D = a at *
    generalize wordN l.length = nw at *
    generalize rawM b l.length = raw at *
    generalize wordN raw = rw' at *
    generalize bytesM b l.length = M at *
    generalize probesW b = n at *
    have hn0 : ¬ (n : Int) = 0 := by omega
    clear hmk h0 p1 p2 r1 r2 r3 hb
    obtain ⟨mx, hmx⟩ : ∃ mx, max 64 raw = mx := ⟨_, rfl⟩
    have hmxi : max (64 : Int) (raw : Int) = (mx : Int) := by omega
    rw [hmx] at hM
    have hmax : ∀ (ts : Array TypeId) (t : TypeId) (w : World), (Builtin.max_ ts t #[.int .i64 64, .int .i64 (raw : Int)]).run Try.prog w = .ok (.int .i64 (mx : Int)) w := by
      intro ts t w
      have hm : mx = if 64 < raw then raw else 64 := by split <;> omega
      rw [hm]
      by_cases h : 64 < raw
      · have h' : (64 : Int) < (raw : Int) := by omega
        simp [Builtin.max_, Builtin.max2, h, h']
      · have h' : ¬ (64 : Int) < (raw : Int) := by omega
        simp [Builtin.max_, Builtin.max2, h, h']
    have e1 : IntKind.i64.wrap ((mx : Int) + 7) = (mx : Int) + 7 := IntWalk.i64_in _ (by omega)
    have e2 : ((mx : Int) + 7).tdiv 8 = (M : Int) := by rw [Int.tdiv_eq_ediv_of_nonneg (by omega)]; omega
    have e2' : ((mx : Int) + 7) / 8 = (M : Int) := by omega
    have e3 : IntKind.i64.wrap ((M : Int) * 8) = (M : Int) * 8 := IntWalk.i64_in _ (by omega)
    have e4 : ((M : Int) * 8).tdiv 8 = (M : Int) := by rw [Int.tdiv_eq_ediv_of_nonneg (by omega)]; omega
    have e4' : ((M : Int) * 8) / 8 = (M : Int) := by omega
    have e5 : IntKind.i64.wrap ((M : Int) + 1) = ((M + 1 : Nat) : Int) := by rw [IntWalk.i64_in _ (by omega)]; omega
    clear hM
    go_enter Try.func12, Try.ntmps12
    go_wp2_with (first | (go_at_call 10; (refine HP.out.mono ?_); rintro e w1 ⟨rfl, rfl⟩) | (go_at_call 22; (refine (HF.out _).mono ?_); rintro e w1 ⟨rfl, rfl⟩) | (at_make; refine wpList_make_bytes rfl _ _ 24 rfl 5 Try.underlying24 info_u8 _ _ (M + 1) rfl rfl ?hn ?kk))
    case hn => omega
    case kk =>
      intro w1 ho1 hb1
      have hlen0 : (List.replicate (M + 1) (0 : UInt8)).length = M + 1 := by simp
      have hcM := ho1.cellAt M (by rw [hlen0]; omega)
      have hfM := ho1.frozenAt M
      have hst := ho1.stored M (UInt8.ofNat n)
      have hbv : bv (UInt8.ofNat n) = .int .u8 (n : Int) := by
        unfold bv
        rw [UInt8.toNat_ofNat', Nat.mod_eq_of_lt (by omega)]
      have hset : (List.replicate (M + 1) (0 : UInt8)).set M (UInt8.ofNat n) = List.replicate M 0 ++ [UInt8.ofNat n] := by
        rw [List.replicate_succ', List.set_append_right _ _ (by simp)]
        simp
      rw [hset, hbv] at hst
      have HST := Lib.hid hst
      have HB1 := Lib.hid (hb1.setCell (p := ⟨w.heap.size, M, none⟩) (Nat.le_refl _) (.int .u8 (n : Int)))
      clear ho1 hb1 hst hset hbv hlen0
      obtain ⟨F0, hF0⟩ : ∃ F0, F0 = List.replicate M (0 : UInt8) ++ [UInt8.ofNat n] := ⟨_, rfl⟩
      have hF0l : F0.length = M + 1 := by rw [hF0]; simp
      rw [← hF0] at HST HMK
      have HFL := Lib.hid hF0l
      have hHL : (hashes l).length = l.length := by unfold hashes; rw [List.length_map]
      have HHL := Lib.hid hHL
      have HV := Lib.hid (show Rd w 1 (.slice va l.length vc) l.length (l.map Value.string) from hv)
      have HSZ := Lib.hid hs
      have m8 : ((M : Int) * 8) % 4294967296 = (M : Int) * 8 := by omega
      have hM1 : 8 ≤ M := by omega
      clear hF0 hF0l hHL hv hs
      go_wp2
      go_loopw [8] (fun i wr => ∃ k : Nat, k ≤ l.length ∧ i = .int .i64 (k : Int) ∧ Hid (OwnB wr w.heap.size 5 (.slice (some ⟨w.heap.size, 0, none⟩) (M + 1) (M + 1)) (putKeys F0 ((hashes l).take k) M n)) ∧ Hid (Below w.heap.size w wr)) (fun i _ => l.length - (intOf i).toNat)
      case atStart => exact ⟨0, Nat.zero_le _, rfl, HST, HB1⟩
      case round =>
        obtain ⟨k, hk, rfl, HO, HB⟩ := hrel
        by_cases hlt : k < l.length
        · obtain ⟨sb, so, rfl, hsb, hsc⟩ := rd_str HV.out hlt
          have hsc' := (HB.out.cell (p := ⟨sb, so + k, none⟩) hsb).trans hsc
          have hsz : (l.getD k ⟨#[]⟩).size ≤ maxLen := HSZ.out _ (by simp only [List.getD, List.getElem?_eq_getElem hlt, Option.getD_some]; exact List.getElem_mem hlt)
          have HH := Lib.hid (rhash_any (l.getD k ⟨#[]⟩) hsz wr)
          have hh := hashL_lt (l.getD k ⟨#[]⟩).data.toList
          have hnx : putKeys F0 ((hashes l).take (k + 1)) M n = putBits (putKeys F0 ((hashes l).take k) M n) (hashL (l.getD k ⟨#[]⟩).data.toList) M n := by
            rw [List.take_succ_eq_append_getElem (by rw [HHL.out]; exact hlt), putKeys_snoc]
            congr 1
            unfold hashes
            simp [List.getD, hlt]
          have HNX := Lib.hid hnx
          have hFk : (putKeys F0 ((hashes l).take k) M n).length = M + 1 := by rw [putKeys_len, HFL.out]
          generalize putKeys F0 ((hashes l).take k) M n = Fk at *
          have HFK := Lib.hid hFk
          generalize l.getD k ⟨#[]⟩ = str at *
          generalize hashL str.data.toList = h at *
          have hhm : (h : Int) % 4294967296 = (h : Int) := by omega
          have hrot := rot17_bits hh
          have hrl := rot17_lt hh
          clear hsc hsz hnx hFk
          obtain ⟨wa, hwa⟩ : ∃ wa, wa = wr := ⟨_, rfl⟩
          subst hwa
          go_wp2_with (go_at_call 27; (refine HH.out.mono ?_); rintro e w1 ⟨rfl, rfl⟩)
          go_loopw [11] (fun j wq => ∃ i : Nat, i ≤ n ∧ j = .int .i64 (i : Int) ∧ Hid (OwnB wq w.heap.size 5 (.slice (some ⟨w.heap.size, 0, none⟩) (M + 1) (M + 1)) (putBits Fk h M i)) ∧ Hid (Below w.heap.size w wq)) (fun j _ => n - (intOf j).toNat)
          case atStart => exact ⟨0, Nat.zero_le _, rfl, HO, HB⟩
          case round =>
            obtain ⟨j, hj, rfl, HOJ, HBJ⟩ := hrel
            by_cases hjn : j < n
            · have hx := bitX_int h M j
              rw [Int.mul_comm 8 (M : Int)] at hx
              have hxl := bitX_lt (h := h) (m := M) (j := j) (by omega)
              have hjw : (j : Int) % 4294967296 = (j : Int) := by omega
              have HSB := Lib.hid (putBits_succ Fk h M j)
              have hGl : (putBits Fk h M j).length = M + 1 := by rw [putBits_len, HFK.out]
              generalize putBits Fk h M j = G at *
              generalize bitX h M j = x at *
              have x1 : IntKind.i64.wrap (x : Int) = (x : Int) := IntWalk.i64_in _ (by omega)
              have hset : setBit G x = G.set (x / 8) (UInt8.ofNat ((G.getD (x / 8) 0).toNat ||| 2 ^ (x % 8))) := rfl
              obtain ⟨q, hq⟩ : ∃ q, x / 8 = q := ⟨_, rfl⟩
              obtain ⟨t, ht⟩ : ∃ t, x % 8 = t := ⟨_, rfl⟩
              rw [hq, ht] at hset
              have q1 : (x : Int).tdiv 8 = (q : Int) := by rw [Int.tdiv_eq_ediv_of_nonneg (by omega)]; omega
              have q2 : (x : Int) / 8 = (q : Int) := by omega
              have t1 : (x : Int).tmod 8 = (t : Int) := by rw [Int.tmod_eq_emod_of_nonneg (by omega)]; omega
              have t2 : (x : Int) % 8 = (t : Int) := by omega
              have t3 : t < 8 := by omega
              have q3 : (q : Int) < (M : Int) + 1 := by omega
              have hc := HOJ.out.cellAt q (by omega)
              have hf := HOJ.out.frozenAt q
              have hcb := byte_le (G.getD q 0)
              have hp : 2 ^ t < 256 := Nat.lt_of_lt_of_le (Nat.pow_lt_pow_right (by omega) t3) (by decide)
              have hst := HOJ.out.stored q (UInt8.ofNat ((G.getD q 0).toNat ||| 2 ^ t))
              rw [← hset, ← HSB.out] at hst
              have hor := or_u8 (G.getD q 0).toNat (2 ^ t) (by omega) hp
              have hol : (G.getD q 0).toNat ||| 2 ^ t < 256 := Nat.or_lt_two_pow (n := 8) (by omega) hp
              have hbv : bv (UInt8.ofNat ((G.getD q 0).toNat ||| 2 ^ t)) = .int .u8 (((G.getD q 0).toNat ||| 2 ^ t : Nat) : Int) := by
                unfold bv
                rw [UInt8.toNat_ofNat', Nat.mod_eq_of_lt (by omega)]
              rw [hbv] at hst
              unfold bv at hc
              have HST2 := Lib.hid hst
              have HB2 := Lib.hid (HBJ.out.setCell (p := ⟨w.heap.size, q, none⟩) (Nat.le_refl _) (.int .u8 (((G.getD q 0).toNat ||| 2 ^ t : Nat) : Int)))
              generalize (G.getD q 0).toNat = c at *
              have hpc : ((2 ^ t : Nat) : Int) = 2 ^ t := by simp
              have hpm : (2 : Int) ^ t % 256 = 2 ^ t := by
                rw [← hpc]
                exact Int.emod_eq_of_lt (Int.natCast_nonneg _) (by exact_mod_cast hp)
              have hor' : bits .or .u8 (c : Int) (2 ^ t % 256) = ((c ||| 2 ^ t : Nat) : Int) := by rw [hpm, ← hpc]; exact hor
              clear hq ht hset hst hbv hol hGl hpc hpm
              go_wp2
              exact ⟨⟨j + 1, hjn, by go_num, HST2, HB2⟩, by simp [intOf]; omega⟩
            · have hje : j = n := by omega
              subst hje
              clear hjn
              go_wp2
              refine ⟨⟨k + 1, hlt, by go_num, by rw [HNX.out]; exact HOJ, HBJ⟩, by simp [intOf]; omega⟩
        · have hke : k = l.length := by omega
          have HEND := Lib.hid (show makeL (hashes l) b = putKeys F0 ((hashes l).take k) M n by rw [HMK.out, hke, List.take_of_length_le (by rw [HHL.out]; omega)])
          clear hke
          go_wp2
          go_ret
          refine ⟨_, rfl, ?_, HB.out⟩
          have hlen : (putKeys F0 ((hashes l).take k) M n).length = M + 1 := by rw [putKeys_len, HFL.out]
          have := HO.out
          rw [HEND.out]
          exact this
end Go.Proofs.Ytlgfodlimehppaa
