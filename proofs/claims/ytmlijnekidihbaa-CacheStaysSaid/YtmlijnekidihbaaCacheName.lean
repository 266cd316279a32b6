/-
  Chapter 16: the statements' own names, and what is put under them.
-/
import Derived.Test.YtmlijnekidihbaaRepDigits
import Derived.Test.YtmlijnekidihbaaWords
namespace Go.Proofs.Ytmlijnekidihbaa
open Go.RowKit

/-- One of six names. -/
def nameB (k : Nat) : ByteArray := strB ([102, 97, 114, 45, 49, 45] ++ digL k)
theorem nameB_size {k : Nat} (h : k < 6) : (nameB k).size = 7 := by
  unfold nameB
  rw [digL_low (by omega), strB_size]
  rfl
theorem nameB_one {j k : Nat} (hj : j < 6) (hk : k < 6) (h : nameB j = nameB k) : j = k := by
  unfold nameB at h
  rw [digL_low (by omega), digL_low (by omega)] at h
  have h2 := congrArg (fun b : ByteArray => b.data.toList) h
  simp at h2
  have h3 := congrArg UInt8.toNat h2
  simp only [UInt8.toNat_ofNat'] at h3
  omega
set_option maxRecDepth 100000 in
theorem name_any (a : Nat) (ha : a ≤ 255) (w : World) : Calls Try.prog 12 #[.int .u8 (a : Int)] w fun e w' => e = .returned (.string (nameB (a % 6))) ∧ Below w.heap.size w w' := by
  obtain ⟨k, hk⟩ : ∃ k, a % 6 = k := ⟨_, rfl⟩
  have hk6 : k < 6 := by omega
  have m1 : (a : Int).tmod 6 = (k : Int) := by rw [Int.tmod_eq_emod_of_nonneg (by omega)]; omega
  have m2 : (a : Int) % 6 = (k : Int) := by omega
  have HD := Lib.hid (rdigits_any k (by omega))
  have hT := strB_app9 [102, 97, 114, 45, 49, 45] (digL k)
  have hl : (digL k).length = 1 := by rw [digL_low (by omega)]; rfl
  have hsz : (strB (digL k)).size = 1 := by rw [strB_size]; exact hl
  rw [hk]
  have HT : Hid ((⟨#[102, 97, 114, 45, 49, 45]⟩ : ByteArray) ++ strB (digL k) = nameB k) := Lib.hid (by unfold nameB; rw [← hT])
  generalize strB (digL k) = ds at *
  clear hT hl hk
  go_enter Try.func12, Try.ntmps12
  go_wp2_with (go_at_call 21; (refine (HD.out _).mono ?_); rintro e w1 ⟨rfl, hb⟩; have HB := Lib.hid hb; clear hb)
  go_ret
  exact ⟨by rw [← HT.out]; rfl, HB.out⟩

/-- What is always put under a name and a number. -/
def dataN (a p : Nat) : Nat := (a * 37 + p * 91) % 512 + 1
def dataF (a p i : Nat) : UInt8 := UInt8.ofNat (a * 7 + p * 13 + i)
def dataL (a p : Nat) : List UInt8 := (List.range (dataN a p)).map (dataF a p)
def dataR (a p i : Nat) : List UInt8 := (List.range i).map (dataF a p) ++ List.replicate (dataN a p - i) 0
theorem dataL_len (a p : Nat) : (dataL a p).length = dataN a p := by simp [dataL]
theorem dataN_le (a p : Nat) : dataN a p ≤ 512 := by unfold dataN; omega
theorem dataR_len {a p i : Nat} (h : i ≤ dataN a p) : (dataR a p i).length = dataN a p := by simp [dataR]; omega
theorem dataR_zero (a p : Nat) : dataR a p 0 = List.replicate (dataN a p) 0 := by simp [dataR]
theorem dataR_all (a p : Nat) : dataR a p (dataN a p) = dataL a p := by simp [dataR, dataL]
theorem dataR_step {a p i : Nat} (h : i < dataN a p) : (dataR a p i).set i (dataF a p i) = dataR a p (i + 1) := by
  unfold dataR
  rw [List.set_append_right _ _ (by simp), List.length_map, List.length_range, Nat.sub_self, List.range_succ, List.map_append, List.append_assoc]
  congr 1
  obtain ⟨m, hm⟩ : ∃ m, dataN a p - i = m + 1 := ⟨dataN a p - i - 1, by omega⟩
  rw [hm, List.replicate_succ, List.set_cons_zero, show dataN a p - (i + 1) = m by omega]
  rfl
set_option maxRecDepth 100000 in
set_option maxHeartbeats 400000 in
theorem data_any (a p : Nat) (ha : a ≤ 255) (hp : p < 1000) (w : World) : Calls Try.prog 13 #[.int .u8 (a : Int), .int .i64 (p : Int)] w fun e w' => ∃ x, e = .returned x ∧ OwnB w' w.heap.size 5 x (dataL a p) ∧ Below w.heap.size w w' := by
  obtain ⟨n, hn⟩ : ∃ n, dataN a p = n := ⟨_, rfl⟩
  have hn1 : n ≤ 512 := by rw [← hn]; exact dataN_le a p
  have hnn : (a * 37 + p * 91) % 512 + 1 = n := hn
  obtain ⟨m, hm⟩ : ∃ m, (a * 37 + p * 91) % 512 = m := ⟨_, rfl⟩
  have e1 : IntKind.i64.wrap ((a : Int) * 37) = (a : Int) * 37 := IntWalk.i64_in _ (by omega)
  have e2 : IntKind.i64.wrap ((p : Int) * 91) = (p : Int) * 91 := IntWalk.i64_in _ (by omega)
  have e3 : ((a : Int) * 37 + (p : Int) * 91).tmod 512 = (m : Int) := by rw [Int.tmod_eq_emod_of_nonneg (by omega)]; omega
  have e4 : ((a : Int) * 37 + (p : Int) * 91) % 512 = (m : Int) := by omega
  have e5 : (m : Int) + 1 = (n : Int) := by omega
  have HN := Lib.hid hn
  have HF : Hid (∀ i, i < n → (dataR a p i).set i (dataF a p i) = dataR a p (i + 1)) := Lib.hid fun i hi => dataR_step (by rw [hn]; exact hi)
  have HL : Hid (∀ i, i ≤ n → (dataR a p i).length = n) := Lib.hid fun i hi => by rw [← hn]; exact dataR_len (by rw [hn]; exact hi)
  have HZ : Hid (List.replicate n 0 = dataR a p 0) := Lib.hid (by rw [dataR_zero, hn])
  have HE : Hid (dataR a p n = dataL a p) := Lib.hid (by rw [← hn]; exact dataR_all a p)
  clear hn hnn hm
  go_enter Try.func13, Try.ntmps13
  go_wp2_with (at_make; refine wpList_make_bytes rfl _ _ 22 rfl 5 Try.underlying22 info_u8 _ _ n rfl rfl (by omega) ?_)
  intro w0 ho0 hx0
  have HO0 := Lib.hid ho0
  have HX0 := Lib.hid hx0
  clear ho0 hx0
  go_wp2
  go_loopw [6] (fun i wr => ∃ j : Nat, j ≤ n ∧ i = .int .i64 (j : Int) ∧ Hid (OwnB wr w.heap.size 5 (.slice (some ⟨w.heap.size, 0, none⟩) n n) (dataR a p j)) ∧ Hid (Below w.heap.size w wr)) (fun i _ => n - (intOf i).toNat)
  case atStart => exact ⟨0, Nat.zero_le _, rfl, Lib.hid (by rw [← HZ.out]; exact HO0.out), HX0⟩
  case round =>
    clear HO0 HX0
    obtain ⟨j, hj, rfl, HO, HB⟩ := hrel
    by_cases hlt : j < n
    · have hltz : (j : Int) < (n : Int) := by omega
      have hst := OwnB.stored HO.out j (dataF a p j)
      rw [HF.out j hlt] at hst
      have hf := OwnB.frozenAt HO.out j
      have hcl := OwnB.cellAt HO.out j (by rw [HL.out j hj]; exact hlt)
      have HS := Lib.hid hst
      have HBN := Lib.hid (HB.out.setCell (p := ⟨w.heap.size, j, none⟩) (Nat.le_refl _) (bv (dataF a p j)))
      have v1 : IntKind.i64.wrap ((a : Int) * 7) = (a : Int) * 7 := IntWalk.i64_in _ (by omega)
      have v2 : IntKind.i64.wrap ((p : Int) * 13) = (p : Int) * 13 := IntWalk.i64_in _ (by omega)
      have v3 : IntKind.u8.wrap ((a : Int) * 7 + (p : Int) * 13 + (j : Int)) = ((dataF a p j).toNat : Int) := by
        unfold dataF
        rw [UInt8.toNat_ofNat', IntKind.wrap_u8]
        omega
      clear hst
      generalize (dataR a p j).getD j 0 = c0 at *
      generalize dataF a p j = c1 at *
      go_wp2
      exact ⟨⟨j + 1, hlt, by go_num, HS, HBN⟩, by simp only [intOf]; omega⟩
    · obtain rfl : j = n := by omega
      go_wp2
      go_ret
      exact ⟨_, rfl, by rw [← HE.out]; exact HO.out, HB.out⟩
end Go.Proofs.Ytmlijnekidihbaa
