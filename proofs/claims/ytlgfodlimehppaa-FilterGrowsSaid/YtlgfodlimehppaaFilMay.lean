/-
  What bytes say of a key: what the document's MayBe does.
-/
import Derived.Test.YtlgfodlimehppaaFloProbes
import Derived.Test.YtlgfodlimehppaaHash
namespace Go.Proofs.Ytlgfodlimehppaa
open Go.RowKit

theorem or_u32 (a b : Nat) (ha : a < 2 ^ 32) (hb : b < 2 ^ 32) : bits .or .u32 (a : Int) (b : Int) = ((a ||| b : Nat) : Int) := by
  have hx : a ||| b < 2 ^ 32 := Nat.or_lt_two_pow ha hb
  show IntKind.u32.wrap ((BitVec.ofInt 32 (a : Int) ||| BitVec.ofInt 32 (b : Int)).toNat : Int) = _
  rw [BitVec.toNat_or, ofInt_u32 a ha, ofInt_u32 b hb, IntKind.wrap_u32']
  omega

/-- A hash turned to the right by 17 of 32 bits. -/
def rot17 (h : Nat) : Nat := (h / 131072) ||| (h * 32768 % 4294967296)
theorem rot17_lt {h : Nat} (hh : h < 4294967296) : rot17 h < 4294967296 := Nat.or_lt_two_pow (n := 32) (show h / 131072 < 2 ^ 32 by omega) (show h * 32768 % 4294967296 < 2 ^ 32 by omega)
theorem rot17_bits {h : Nat} (hh : h < 4294967296) : bits .or .u32 ((h : Int) / 131072) ((h : Int) * 32768 % 4294967296) = ((rot17 h : Nat) : Int) := by
  have := or_u32 (h / 131072) (h * 32768 % 4294967296) (by omega) (by omega)
  rw [← show (((h / 131072 : Nat)) : Int) = (h : Int) / 131072 by omega, ← show (((h * 32768 % 4294967296 : Nat)) : Int) = (h : Int) * 32768 % 4294967296 by omega]
  exact this
/-- The j-th bit that is asked. -/
def bitX (h m j : Nat) : Nat := (h + j * rot17 h) % 4294967296 % (8 * m)
theorem bitX_int (h m j : Nat) : ((h : Int) + (j : Int) * ((rot17 h : Nat) : Int)) % 4294967296 % (8 * (m : Int)) = ((bitX h m j : Nat) : Int) := by
  unfold bitX
  rw [Int.natCast_emod, Int.natCast_emod, Int.natCast_add, Int.natCast_mul, Int.natCast_mul]
  rfl
theorem bitX_lt {h m j : Nat} (hm : 0 < m) : bitX h m j < 8 * m := Nat.mod_lt _ (by omega)

theorem and_one_u8 (a : Nat) (ha : a < 256) : bits .and .u8 (a : Int) 1 = ((a % 2 : Nat) : Int) := by
  have h1 : (BitVec.ofInt 8 1).toNat = 1 := by decide
  have h2 : (BitVec.ofInt 8 (a : Int)).toNat = a := by
    rw [BitVec.ofInt_natCast, BitVec.toNat_ofNat]
    exact Nat.mod_eq_of_lt (by omega)
  show IntKind.u8.wrap ((BitVec.ofInt 8 (a : Int) &&& BitVec.ofInt 8 1).toNat : Int) = _
  rw [BitVec.toNat_and, h2, h1, Nat.and_one_is_mod]
  rw [IntKind.wrap_u8]
  omega

/-- Is the bit set? -/
def hasBit (f : List UInt8) (x : Nat) : Bool := (f.getD (x / 8) 0).toNat / 2 ^ (x % 8) % 2 == 1
/-- May the key with this hash be there? -/
def mayL (f : List UInt8) (h : Nat) : Bool :=
  if f.length < 2 then true else if (f.getD (f.length - 1) 0).toNat = 0 ∨ 12 < (f.getD (f.length - 1) 0).toNat then true
  else (List.range (f.getD (f.length - 1) 0).toNat).all fun j => hasBit f (bitX h (f.length - 1) j)

theorem may_yes {f : List UInt8} {h m n : Nat} (h1 : ∀ j, j < n → hasBit f (bitX h m j) = true) : ((List.range n).all fun j => hasBit f (bitX h m j)) = true := by
  rw [List.all_eq_true]
  intro j hj
  exact h1 j (List.mem_range.1 hj)
theorem may_no {f : List UInt8} {h m n j : Nat} (hj : j < n) (h1 : hasBit f (bitX h m j) = false) : ((List.range n).all fun j => hasBit f (bitX h m j)) = false := by
  rw [List.all_eq_false]
  exact ⟨j, List.mem_range.2 hj, by rw [h1]; simp⟩

theorem mayret {a b : Bool} (h : a = b) : Ending.returned (.bool a) = .returned (.bool b) := by rw [h]

set_option maxRecDepth 100000 in
set_option maxHeartbeats 4000000 in
theorem rmaybe_any (v : Value) (f : List UInt8) (key : ByteArray) (hk : key.size ≤ maxLen) (w : World) (hv : RdB w v f) (hl : f.length ≤ 100000) :
    Calls Try.prog 14 #[v, .string key] w fun e w' => e = .returned (.bool (mayL f (hashL key.data.toList))) ∧ w = w' := by
  obtain ⟨a, cap, rfl, h1, h2, h0, h3⟩ := hv
  have HH := Lib.hid (rhash_any key hk)
  have hh := hashL_lt key.data.toList
  generalize hashL key.data.toList = h at *
  have hhm : (h : Int) % 4294967296 = (h : Int) := by omega
  have hrot := rot17_bits hh
  have hrl := rot17_lt hh
  by_cases g1 : f.length < 2
  · have HR := Lib.hid (show mayL f h = true by unfold mayL; rw [if_pos g1])
    have g1' : (f.length : Int) < 2 := by omega
    clear h3 h0
    go_enter Try.func14, Try.ntmps14
    go_wp2
    go_ret
    exact ⟨mayret HR.out.symm, rfl⟩
  · rcases h3 with ⟨h3, _⟩ | ⟨b, off, rfl, h4, h5⟩
    · omega
    · obtain ⟨m, hm⟩ : ∃ m, f.length = m + 1 := ⟨f.length - 1, by omega⟩
      have hbytes : ∀ i, i < m + 1 → w.cell? ⟨b, off + i, none⟩ = some (.int .u8 ((f.getD i 0).toNat : Int)) := fun i hi => by
        refine h5 i _ ?_
        rw [List.getElem?_map, List.getElem?_eq_getElem (by omega)]
        simp [List.getD, show i < f.length by omega, bv]
      have hn := hbytes m (by omega)
      have HBY := Lib.hid hbytes
      clear hbytes
      have hnb := byte_le (f.getD m 0)
      have HML := Lib.hid (show mayL f h = if (f.getD m 0).toNat = 0 ∨ 12 < (f.getD m 0).toNat then true else (List.range (f.getD m 0).toNat).all fun j => hasBit f (bitX h m j) by
        unfold mayL
        rw [if_neg g1, hm, Nat.add_sub_cancel])
      generalize (f.getD m 0).toNat = n at *
      rw [hm] at g1 h1 hl ⊢
      unfold maxLen at *
      clear h5 h0 hm
      have g1' : ¬ (m : Int) + 1 < 2 := by omega
      have e1 : ((m + 1 : Nat) : Int) = (m : Int) + 1 := by omega
      have d1 : IntKind.i64.wrap ((m : Int) + 1 - 1) = (m : Int) := by rw [IntWalk.i64_in _ (by omega)]; omega
      have d3 : IntKind.i64.wrap (n : Int) = (n : Int) := IntWalk.i64_in _ (by omega)
      have d2 : IntKind.i64.wrap (8 * (m : Int)) = 8 * (m : Int) := IntWalk.i64_in _ (by omega)
      by_cases g2 : n = 0
      · have HR := Lib.hid (show mayL f h = true by rw [HML.out, if_pos (.inl g2)])
        have g3 : (n : Int) = 0 := by omega
        clear HML
        subst g2
        go_enter Try.func14, Try.ntmps14
        go_wp2
        go_ret
        exact ⟨mayret HR.out.symm, rfl⟩
      · have g3 : ¬ (n : Int) = 0 := by omega
        by_cases g4 : 12 < n
        · have HR := Lib.hid (show mayL f h = true by rw [HML.out, if_pos (.inr g4)])
          have g5 : 12 < (n : Int) := by omega
          clear HML
          go_enter Try.func14, Try.ntmps14
          go_wp2
          go_ret
          exact ⟨mayret HR.out.symm, rfl⟩
        · have g4' : (n : Int) ≤ 12 := by omega
          have g6 : ¬ 12 < (n : Int) := by omega
          clear g4
          have HR := Lib.hid (show mayL f h = (List.range n).all fun j => hasBit f (bitX h m j) by rw [HML.out, if_neg (by omega)])
          clear HML
          go_enter Try.func14, Try.ntmps14
          go_wp2_with (go_at_call 27; (refine (HH.out _).mono ?_); rintro e w1 ⟨rfl, rfl⟩)
          go_loop [9] (fun i => ∃ j : Nat, j ≤ n ∧ i = .int .i64 (j : Int) ∧ Hid (∀ i, i < j → hasBit f (bitX h m i) = true)) (fun i => n - (intOf i).toNat)
          case atStart => exact ⟨0, Nat.zero_le _, rfl, Lib.hid (fun i hi => by omega)⟩
          case round =>
            obtain ⟨j, hj, rfl, HJ⟩ := hrel
            by_cases hjn : j < n
            · have hx := bitX_int h m j
              have hxl := bitX_lt (h := h) (m := m) (j := j) (by omega)
              have hjw : (j : Int) % 4294967296 = (j : Int) := by omega
              obtain ⟨x, hxe⟩ : ∃ x, bitX h m j = x := ⟨_, rfl⟩
              have HXE := Lib.hid hxe
              rw [hxe] at hx hxl
              clear hxe
              have x1 : IntKind.i64.wrap (x : Int) = (x : Int) := IntWalk.i64_in _ (by omega)
              have HQT := Lib.hid (show x / 8 = x / 8 ∧ x % 8 = x % 8 from ⟨rfl, rfl⟩)
              obtain ⟨q, hq⟩ : ∃ q, x / 8 = q := ⟨_, rfl⟩
              obtain ⟨t, ht⟩ : ∃ t, x % 8 = t := ⟨_, rfl⟩
              have q1 : (x : Int).tdiv 8 = (q : Int) := by rw [Int.tdiv_eq_ediv_of_nonneg (by omega)]; omega
              have q2 : (x : Int) / 8 = (q : Int) := by omega
              have t1 : (x : Int).tmod 8 = (t : Int) := by rw [Int.tmod_eq_emod_of_nonneg (by omega)]; omega
              have t2 : (x : Int) % 8 = (t : Int) := by omega
              have t3 : t < 8 := by omega
              have q3 : (q : Int) < (m : Int) + 1 := by omega
              have hc := HBY.out q (by omega)
              have hcb := byte_le (f.getD q 0)
              have HHB := Lib.hid (show hasBit f x = ((f.getD q 0).toNat / 2 ^ t % 2 == 1) by unfold hasBit; rw [hq, ht])
              generalize (f.getD q 0).toNat = c at *
              have hcl : c / 2 ^ t < 256 := Nat.lt_of_le_of_lt (Nat.div_le_self _ _) (by omega)
              have hand := and_one_u8 (c / 2 ^ t) hcl
              rw [show (((c / 2 ^ t : Nat)) : Int) = (c : Int) / 2 ^ t by rw [Int.natCast_ediv]; simp] at hand
              clear hq ht HQT hcl
              generalize c / 2 ^ t = z at *
              by_cases hz : z % 2 = 1
              · have hb : (bits .and .u8 ((c : Int) / 2 ^ t) 1 == 0) = false := by rw [hand, hz]; rfl
                have HB := Lib.hid (show hasBit f (bitX h m j) = true by rw [HXE.out, HHB.out, hz]; rfl)
                clear hand
                go_wp2
                refine ⟨⟨j + 1, hjn, by go_num, Lib.hid fun i hi => ?_⟩, by simp [intOf]; omega⟩
                rcases Nat.lt_or_ge i j with h1 | h1
                · exact HJ.out i h1
                · rw [show i = j by omega]; exact HB.out
              · have hz0 : z % 2 = 0 := by omega
                have hb : (bits .and .u8 ((c : Int) / 2 ^ t) 1 == 0) = true := by rw [hand, hz0]; rfl
                have HB := Lib.hid (show hasBit f (bitX h m j) = false by rw [HXE.out, HHB.out, hz0]; rfl)
                clear hand
                go_wp2
                go_ret
                exact ⟨mayret (by rw [HR.out, may_no hjn HB.out]), rfl⟩
            · have hje : j = n := by omega
              have HALL := Lib.hid (show mayL f h = true by rw [HR.out]; exact may_yes fun i hi => HJ.out i (by omega))
              clear hje
              go_wp2
              go_ret
              exact ⟨mayret HALL.out.symm, rfl⟩
end Go.Proofs.Ytlgfodlimehppaa
