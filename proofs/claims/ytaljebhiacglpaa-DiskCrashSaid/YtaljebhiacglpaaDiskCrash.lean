/-
  The walk of the statement DiskCrash.
-/
import Derived.Test.YtaljebhiacglpaaDiskLaw2
namespace Go.Proofs.Ytaljebhiacglpaa
open Go.RowKit

def fsN (n : Nat) : List PF := List.replicate n PF.new
def nmN (n : Nat) : DB := (List.range n).map fun j => ([102, 49 + UInt8.ofNat j], j)
def loN (n : Nat) : List PC := (List.range n).map fun j => ⟨0, [], [102, 49 + UInt8.ofNat j], j⟩
/-- The disk behind 'm' Makes, that goes down at the one of number r + 1. -/
def cst (r : Nat) (dn : Bool) (m : Nat) : PD :=
  if m ≤ r then ⟨5000, 1 + (r : Int), dn, m, false, fsN m, nmN m, [], loN m⟩
  else ⟨5000, 1 + (r : Int), dn, r + 1, true, fsN (if dn then r + 1 else r), nmN (if dn then r + 1 else r), [], loN (if dn then r + 1 else r)⟩

theorem cst_step (r m : Nat) (dn : Bool) (hr : r < 8) (hm : m < 8) : (cst r dn m).make [102, 49 + UInt8.ofNat m] = (if r ≤ m then 7 else 0, cst r dn (m + 1)) := by
  have h1 : r = 0 ∨ r = 1 ∨ r = 2 ∨ r = 3 ∨ r = 4 ∨ r = 5 ∨ r = 6 ∨ r = 7 := by omega
  have h2 : m = 0 ∨ m = 1 ∨ m = 2 ∨ m = 3 ∨ m = 4 ∨ m = 5 ∨ m = 6 ∨ m = 7 := by omega
  rcases h1 with rfl | rfl | rfl | rfl | rfl | rfl | rfl | rfl <;> rcases h2 with rfl | rfl | rfl | rfl | rfl | rfl | rfl | rfl <;> cases dn <;> rfl

theorem cst_files (r m : Nat) (dn : Bool) : ∀ f ∈ (cst r dn m).files, FOk f := by
  intro f hf
  have : f = PF.new := by
    unfold cst at hf
    split at hf <;> exact List.eq_of_mem_replicate hf
  rw [this]
  exact fok_new

theorem cst_small (r m : Nat) (dn : Bool) (hr : r < 8) (hm : m ≤ 8) : Small (cst r dn m) := by
  refine small_of ?_ (cst_files r m dn)
  have h1 : r = 0 ∨ r = 1 ∨ r = 2 ∨ r = 3 ∨ r = 4 ∨ r = 5 ∨ r = 6 ∨ r = 7 := by omega
  have h2 : m = 0 ∨ m = 1 ∨ m = 2 ∨ m = 3 ∨ m = 4 ∨ m = 5 ∨ m = 6 ∨ m = 7 ∨ m = 8 := by omega
  rcases h1 with rfl | rfl | rfl | rfl | rfl | rfl | rfl | rfl <;> rcases h2 with rfl | rfl | rfl | rfl | rfl | rfl | rfl | rfl | rfl <;> cases dn <;> rfl

theorem cst_calls (r m : Nat) (dn : Bool) (hr : r < 8) (hm : m ≤ 8) : (cst r dn m).calls < 100 := by
  unfold cst
  split
  · show m < 100; omega
  · show r + 1 < 100; omega

theorem cst_end (r : Nat) (dn : Bool) (hr : r < 8) : cst r dn 8 = ⟨5000, 1 + (r : Int), dn, r + 1, true, fsN (if dn then r + 1 else r), nmN (if dn then r + 1 else r), [], loN (if dn then r + 1 else r)⟩ := by
  unfold cst
  rw [if_neg (by omega)]

theorem cst_read (r : Nat) (dn : Bool) (hr : r < 8) (a n : Int) : (cst r dn 8).read [102, 49] a n = ([], 7) := by rw [cst_end r dn hr]; rfl
theorem cst_write (r : Nat) (dn : Bool) (hr : r < 8) (a : Int) (l : List UInt8) : (cst r dn 8).write [102, 49] a l = (7, cst r dn 8) := by rw [cst_end r dn hr]; rfl
theorem cst_list (r : Nat) (dn : Bool) (hr : r < 8) : (cst r dn 8).list.length = (if dn then r + 1 else r) := by
  rw [cst_end r dn hr]
  unfold PD.list
  rw [List.length_map]
  show (nmN _).length = _
  unfold nmN
  rw [List.length_map, List.length_range]

theorem on_files_n {W w : World} {p : Nat} {d : PD} (h : On W w p d) (hsm : Small d) (n : Nat) (hn : d.list.length = n) :
    Calls Try.prog 20 #[.pointer (some ⟨p, 0, none⟩)] w fun e w' => ∃ va vc, e = .returned (.slice va n vc) ∧ On W w' p d := by
  refine (on_files h hsm _ rfl).mono ?_
  rintro e w' ⟨va, vc, rfl, h1, _⟩
  rw [hn]
  exact ⟨va, vc, rfl, h1⟩

theorem rd_cell1 (w : World) (c : UInt8) : RdB (w.alloc (.cells #[bv c] 5)) (.slice (some ⟨w.heap.size, 0, none⟩) 1 1) [c] :=
  ⟨_, 1, rfl, Nat.le_refl _, by unfold maxLen; omega, rfl, .inr ⟨w.heap.size, 0, rfl, by simp, fun j u hj => by rw [Nat.zero_add, blk_cell (heap_alloc_new w _)]; simpa using hj⟩⟩

theorem on_make_new {W w w2 : World} {p : Nat} {d : PD} (h : On W w p d) (hb : Below w.heap.size w w2) (hsm : Small d) (hcl : d.calls + 1 < 10000) (s : ByteArray) (hs : s.size ≤ maxLen) (r : Nat) (d' : PD) (he : d.make s.data.toList = (r, d')) :
    Calls Try.prog 26 #[.pointer (some ⟨p, 0, none⟩), .string s] w2 fun e w' => e = .returned (.int .i64 (r : Int)) ∧ On W w' p d' := by
  obtain ⟨g, h1, h2, h3⟩ := h
  exact on_make ⟨g, h1.below hb, h2.trans (hb.mono h2.size), h3⟩ hsm hcl s hs r d' he

set_option maxRecDepth 100000 in
set_option maxHeartbeats 8000000 in
set_option linter.unusedSimpArgs false in
theorem crash_false (C : Int) (hC0 : 0 ≤ C) (hC : C ≤ 255) (r : Nat) (hr : r < 8) (hm : C % 8 = (r : Int)) (va : Option Addr) (ca : Nat) (la : List UInt8) (W : World) (h1 : RdB W (.slice va la.length ca) la) (l1 : la.length ≤ 100) :
    Calls Try.prog 6 #[.int .u8 C, .bool false, .slice va la.length ca] W fun e w' => e = .returned (.bool true) ∧ Below W.heap.size W w' := by
  have HN := Lib.hid (on_new W W (Below.refl _ _) 5000 (1 + (r : Int)) 0 false (.slice none 0 0))
  have HR := Lib.hid (fun (w : World) (p : Nat) (h : On W w p (cst r false 8)) => on_read h (cst_small r 8 false hr (by omega)) ⟨#[102, 49]⟩ (by decide) 0 1 [] 7 (cst_read r false hr 0 1))
  have HF := Lib.hid (fun (w : World) (p : Nat) (h : On W w p (cst r false 8)) => on_files_n h (cst_small r 8 false hr (by omega)) r (cst_list r false hr))
  have HD := Lib.hid (fun (w : World) (p : Nat) (h : On W w p (cst r false 8)) => (show Calls Try.prog 22 #[.pointer (some ⟨p, 0, none⟩)] w fun e w' => e = .returned (.bool true) ∧ w = w' by have := on_down h; rw [cst_end r false hr] at this; exact this))
  have HW := Lib.hid (fun (w : World) (p : Nat) (h : On W w p (cst r false 8)) => on_write h (cst_small r 8 false hr (by omega)) (by have := cst_calls r 8 false hr (by omega); omega) ⟨#[102, 49]⟩ (by decide) 0 _ la h1 (by omega) 7 _ (cst_write r false hr 0 la))
  have HK := Lib.hid (fun (w : World) (p : Nat) (h : On W w p (cst r false 8)) => on_calls h (r + 1) (by rw [cst_end r false hr]))
  have hm1 : C.tmod 8 = (r : Int) := by rw [Int.tmod_eq_emod_of_nonneg hC0]; exact hm
  have g1 : ¬ (100 : Int) < (la.length : Int) := by omega
  clear h1
  go_enter Try.func6, Try.ntmps6
  go_wp2_with (first | (go_at_call 15; (with_reducible refine HN.out.mono ?_); rintro e w0 ⟨p, rfl, h0⟩; have H0 := Lib.hid h0; clear h0))
  go_loopw [9, 10] (fun b i wr => ∃ m : Nat, m ≤ 8 ∧ i = .int .i64 ((m : Int) + 1) ∧ b = .int .i64 ((m - r : Nat) : Int) ∧ On W wr p (cst r false m)) (fun _ i _ => 9 - (intOf i).toNat)
  case atStart => exact ⟨0, by omega, rfl, by rw [Nat.zero_sub]; rfl, H0.out⟩
  case round =>
    obtain ⟨m, hm8, rfl, rfl, ho⟩ := hrel
    have HO := Lib.hid ho
    clear ho
    by_cases hlt : m < 8
    · have hcase : m = 0 ∨ m = 1 ∨ m = 2 ∨ m = 3 ∨ m = 4 ∨ m = 5 ∨ m = 6 ∨ m = 7 := by omega
      have HM := Lib.hid (fun (w2 : World) (hb : Below wr.heap.size wr w2) => on_make_new HO.out hb (cst_small r m false hr hm8) (by have := cst_calls r m false hr hm8; omega) ⟨#[102, 49 + UInt8.ofNat m]⟩ (by show 2 ≤ maxLen; unfold maxLen; omega) _ _ (cst_step r m false hr hlt))
      have hcs := fun (c : UInt8) (w : World) => rdB_convert (P := Try.prog) (rd_cell1 w c) 32 5 9 Try.underlying32 Try.underlying5 Try.underlying9
      by_cases hge : r ≤ m
      · rw [if_pos hge] at HM
        rcases hcase with rfl | rfl | rfl | rfl | rfl | rfl | rfl | rfl
        · have hc1 : ∀ w : World, (convert 32 9 (.slice (some ⟨w.heap.size, 0, none⟩) 1 1)).run Try.prog (w.alloc (.cells #[.int .u8 49] 5)) = .ok (.string ⟨#[49]⟩) (w.alloc (.cells #[.int .u8 49] 5)) := fun w => hcs 49 w
          have HAP := Lib.hid (show (⟨#[102]⟩ ++ ⟨#[49]⟩ : ByteArray) = ⟨#[102, 49]⟩ by kernel_rfl)
          have HMM := Lib.hid (fun (w2 : World) (hb : Below wr.heap.size wr w2) => (show Calls Try.prog 26 #[.pointer (some ⟨p, 0, none⟩), .string ⟨#[102, 49]⟩] w2 fun e w' => e = .returned (.int .i64 7) ∧ On W w' p (cst r false 1) from HM.out w2 hb))
          clear hcs HM
          have hz : (1 : Int) + (r : Int) ≤ 1 := by omega
          go_wp2_with (first | (go_at_call 26; rw [HAP.out]; (with_reducible refine (HMM.out _ ((Below.refl _ _).alloc (Nat.le_refl _) _)).mono ?_); rintro e w1 ⟨rfl, h1⟩; have H1 := Lib.hid h1; clear h1) | (go_at_call 31; (with_reducible refine (num1_any _ _).mono ?_); rintro e w14 ⟨rfl, rfl⟩))
          go_roundw
          case rel => exact ⟨1, by omega, by go_num, by rw [show 1 - r = (0 - r) + 1 by omega]; go_num, H1.out⟩
          case measure => simp [intOf]
        · have hc1 : ∀ w : World, (convert 32 9 (.slice (some ⟨w.heap.size, 0, none⟩) 1 1)).run Try.prog (w.alloc (.cells #[.int .u8 50] 5)) = .ok (.string ⟨#[50]⟩) (w.alloc (.cells #[.int .u8 50] 5)) := fun w => hcs 50 w
          have HAP := Lib.hid (show (⟨#[102]⟩ ++ ⟨#[50]⟩ : ByteArray) = ⟨#[102, 50]⟩ by kernel_rfl)
          have HMM := Lib.hid (fun (w2 : World) (hb : Below wr.heap.size wr w2) => (show Calls Try.prog 26 #[.pointer (some ⟨p, 0, none⟩), .string ⟨#[102, 50]⟩] w2 fun e w' => e = .returned (.int .i64 7) ∧ On W w' p (cst r false 2) from HM.out w2 hb))
          clear hcs HM
          have hz : (1 : Int) + (r : Int) ≤ 2 := by omega
          go_wp2_with (first | (go_at_call 26; rw [HAP.out]; (with_reducible refine (HMM.out _ ((Below.refl _ _).alloc (Nat.le_refl _) _)).mono ?_); rintro e w1 ⟨rfl, h1⟩; have H1 := Lib.hid h1; clear h1) | (go_at_call 31; (with_reducible refine (num1_any _ _).mono ?_); rintro e w14 ⟨rfl, rfl⟩))
          go_roundw
          case rel => exact ⟨2, by omega, by go_num, by rw [show 2 - r = (1 - r) + 1 by omega]; go_num, H1.out⟩
          case measure => simp [intOf]
        · have hc1 : ∀ w : World, (convert 32 9 (.slice (some ⟨w.heap.size, 0, none⟩) 1 1)).run Try.prog (w.alloc (.cells #[.int .u8 51] 5)) = .ok (.string ⟨#[51]⟩) (w.alloc (.cells #[.int .u8 51] 5)) := fun w => hcs 51 w
          have HAP := Lib.hid (show (⟨#[102]⟩ ++ ⟨#[51]⟩ : ByteArray) = ⟨#[102, 51]⟩ by kernel_rfl)
          have HMM := Lib.hid (fun (w2 : World) (hb : Below wr.heap.size wr w2) => (show Calls Try.prog 26 #[.pointer (some ⟨p, 0, none⟩), .string ⟨#[102, 51]⟩] w2 fun e w' => e = .returned (.int .i64 7) ∧ On W w' p (cst r false 3) from HM.out w2 hb))
          clear hcs HM
          have hz : (1 : Int) + (r : Int) ≤ 3 := by omega
          go_wp2_with (first | (go_at_call 26; rw [HAP.out]; (with_reducible refine (HMM.out _ ((Below.refl _ _).alloc (Nat.le_refl _) _)).mono ?_); rintro e w1 ⟨rfl, h1⟩; have H1 := Lib.hid h1; clear h1) | (go_at_call 31; (with_reducible refine (num1_any _ _).mono ?_); rintro e w14 ⟨rfl, rfl⟩))
          go_roundw
          case rel => exact ⟨3, by omega, by go_num, by rw [show 3 - r = (2 - r) + 1 by omega]; go_num, H1.out⟩
          case measure => simp [intOf]
        · have hc1 : ∀ w : World, (convert 32 9 (.slice (some ⟨w.heap.size, 0, none⟩) 1 1)).run Try.prog (w.alloc (.cells #[.int .u8 52] 5)) = .ok (.string ⟨#[52]⟩) (w.alloc (.cells #[.int .u8 52] 5)) := fun w => hcs 52 w
          have HAP := Lib.hid (show (⟨#[102]⟩ ++ ⟨#[52]⟩ : ByteArray) = ⟨#[102, 52]⟩ by kernel_rfl)
          have HMM := Lib.hid (fun (w2 : World) (hb : Below wr.heap.size wr w2) => (show Calls Try.prog 26 #[.pointer (some ⟨p, 0, none⟩), .string ⟨#[102, 52]⟩] w2 fun e w' => e = .returned (.int .i64 7) ∧ On W w' p (cst r false 4) from HM.out w2 hb))
          clear hcs HM
          have hz : (1 : Int) + (r : Int) ≤ 4 := by omega
          go_wp2_with (first | (go_at_call 26; rw [HAP.out]; (with_reducible refine (HMM.out _ ((Below.refl _ _).alloc (Nat.le_refl _) _)).mono ?_); rintro e w1 ⟨rfl, h1⟩; have H1 := Lib.hid h1; clear h1) | (go_at_call 31; (with_reducible refine (num1_any _ _).mono ?_); rintro e w14 ⟨rfl, rfl⟩))
          go_roundw
          case rel => exact ⟨4, by omega, by go_num, by rw [show 4 - r = (3 - r) + 1 by omega]; go_num, H1.out⟩
          case measure => simp [intOf]
        · have hc1 : ∀ w : World, (convert 32 9 (.slice (some ⟨w.heap.size, 0, none⟩) 1 1)).run Try.prog (w.alloc (.cells #[.int .u8 53] 5)) = .ok (.string ⟨#[53]⟩) (w.alloc (.cells #[.int .u8 53] 5)) := fun w => hcs 53 w
          have HAP := Lib.hid (show (⟨#[102]⟩ ++ ⟨#[53]⟩ : ByteArray) = ⟨#[102, 53]⟩ by kernel_rfl)
          have HMM := Lib.hid (fun (w2 : World) (hb : Below wr.heap.size wr w2) => (show Calls Try.prog 26 #[.pointer (some ⟨p, 0, none⟩), .string ⟨#[102, 53]⟩] w2 fun e w' => e = .returned (.int .i64 7) ∧ On W w' p (cst r false 5) from HM.out w2 hb))
          clear hcs HM
          have hz : (1 : Int) + (r : Int) ≤ 5 := by omega
          go_wp2_with (first | (go_at_call 26; rw [HAP.out]; (with_reducible refine (HMM.out _ ((Below.refl _ _).alloc (Nat.le_refl _) _)).mono ?_); rintro e w1 ⟨rfl, h1⟩; have H1 := Lib.hid h1; clear h1) | (go_at_call 31; (with_reducible refine (num1_any _ _).mono ?_); rintro e w14 ⟨rfl, rfl⟩))
          go_roundw
          case rel => exact ⟨5, by omega, by go_num, by rw [show 5 - r = (4 - r) + 1 by omega]; go_num, H1.out⟩
          case measure => simp [intOf]
        · have hc1 : ∀ w : World, (convert 32 9 (.slice (some ⟨w.heap.size, 0, none⟩) 1 1)).run Try.prog (w.alloc (.cells #[.int .u8 54] 5)) = .ok (.string ⟨#[54]⟩) (w.alloc (.cells #[.int .u8 54] 5)) := fun w => hcs 54 w
          have HAP := Lib.hid (show (⟨#[102]⟩ ++ ⟨#[54]⟩ : ByteArray) = ⟨#[102, 54]⟩ by kernel_rfl)
          have HMM := Lib.hid (fun (w2 : World) (hb : Below wr.heap.size wr w2) => (show Calls Try.prog 26 #[.pointer (some ⟨p, 0, none⟩), .string ⟨#[102, 54]⟩] w2 fun e w' => e = .returned (.int .i64 7) ∧ On W w' p (cst r false 6) from HM.out w2 hb))
          clear hcs HM
          have hz : (1 : Int) + (r : Int) ≤ 6 := by omega
          go_wp2_with (first | (go_at_call 26; rw [HAP.out]; (with_reducible refine (HMM.out _ ((Below.refl _ _).alloc (Nat.le_refl _) _)).mono ?_); rintro e w1 ⟨rfl, h1⟩; have H1 := Lib.hid h1; clear h1) | (go_at_call 31; (with_reducible refine (num1_any _ _).mono ?_); rintro e w14 ⟨rfl, rfl⟩))
          go_roundw
          case rel => exact ⟨6, by omega, by go_num, by rw [show 6 - r = (5 - r) + 1 by omega]; go_num, H1.out⟩
          case measure => simp [intOf]
        · have hc1 : ∀ w : World, (convert 32 9 (.slice (some ⟨w.heap.size, 0, none⟩) 1 1)).run Try.prog (w.alloc (.cells #[.int .u8 55] 5)) = .ok (.string ⟨#[55]⟩) (w.alloc (.cells #[.int .u8 55] 5)) := fun w => hcs 55 w
          have HAP := Lib.hid (show (⟨#[102]⟩ ++ ⟨#[55]⟩ : ByteArray) = ⟨#[102, 55]⟩ by kernel_rfl)
          have HMM := Lib.hid (fun (w2 : World) (hb : Below wr.heap.size wr w2) => (show Calls Try.prog 26 #[.pointer (some ⟨p, 0, none⟩), .string ⟨#[102, 55]⟩] w2 fun e w' => e = .returned (.int .i64 7) ∧ On W w' p (cst r false 7) from HM.out w2 hb))
          clear hcs HM
          have hz : (1 : Int) + (r : Int) ≤ 7 := by omega
          go_wp2_with (first | (go_at_call 26; rw [HAP.out]; (with_reducible refine (HMM.out _ ((Below.refl _ _).alloc (Nat.le_refl _) _)).mono ?_); rintro e w1 ⟨rfl, h1⟩; have H1 := Lib.hid h1; clear h1) | (go_at_call 31; (with_reducible refine (num1_any _ _).mono ?_); rintro e w14 ⟨rfl, rfl⟩))
          go_roundw
          case rel => exact ⟨7, by omega, by go_num, by rw [show 7 - r = (6 - r) + 1 by omega]; go_num, H1.out⟩
          case measure => simp [intOf]
        · have hc1 : ∀ w : World, (convert 32 9 (.slice (some ⟨w.heap.size, 0, none⟩) 1 1)).run Try.prog (w.alloc (.cells #[.int .u8 56] 5)) = .ok (.string ⟨#[56]⟩) (w.alloc (.cells #[.int .u8 56] 5)) := fun w => hcs 56 w
          have HAP := Lib.hid (show (⟨#[102]⟩ ++ ⟨#[56]⟩ : ByteArray) = ⟨#[102, 56]⟩ by kernel_rfl)
          have HMM := Lib.hid (fun (w2 : World) (hb : Below wr.heap.size wr w2) => (show Calls Try.prog 26 #[.pointer (some ⟨p, 0, none⟩), .string ⟨#[102, 56]⟩] w2 fun e w' => e = .returned (.int .i64 7) ∧ On W w' p (cst r false 8) from HM.out w2 hb))
          clear hcs HM
          have hz : (1 : Int) + (r : Int) ≤ 8 := by omega
          go_wp2_with (first | (go_at_call 26; rw [HAP.out]; (with_reducible refine (HMM.out _ ((Below.refl _ _).alloc (Nat.le_refl _) _)).mono ?_); rintro e w1 ⟨rfl, h1⟩; have H1 := Lib.hid h1; clear h1) | (go_at_call 31; (with_reducible refine (num1_any _ _).mono ?_); rintro e w14 ⟨rfl, rfl⟩))
          go_roundw
          case rel => exact ⟨8, by omega, by go_num, by rw [show 8 - r = (7 - r) + 1 by omega]; go_num, H1.out⟩
          case measure => simp [intOf]
      · rw [if_neg hge] at HM
        rcases hcase with rfl | rfl | rfl | rfl | rfl | rfl | rfl | rfl
        · have hc1 : ∀ w : World, (convert 32 9 (.slice (some ⟨w.heap.size, 0, none⟩) 1 1)).run Try.prog (w.alloc (.cells #[.int .u8 49] 5)) = .ok (.string ⟨#[49]⟩) (w.alloc (.cells #[.int .u8 49] 5)) := fun w => hcs 49 w
          have HAP := Lib.hid (show (⟨#[102]⟩ ++ ⟨#[49]⟩ : ByteArray) = ⟨#[102, 49]⟩ by kernel_rfl)
          have HMM := Lib.hid (fun (w2 : World) (hb : Below wr.heap.size wr w2) => (show Calls Try.prog 26 #[.pointer (some ⟨p, 0, none⟩), .string ⟨#[102, 49]⟩] w2 fun e w' => e = .returned (.int .i64 0) ∧ On W w' p (cst r false 1) from HM.out w2 hb))
          clear hcs HM
          have hz : ¬ (1 : Int) + (r : Int) ≤ 1 := by omega
          go_wp2_with (first | (go_at_call 26; rw [HAP.out]; (with_reducible refine (HMM.out _ ((Below.refl _ _).alloc (Nat.le_refl _) _)).mono ?_); rintro e w1 ⟨rfl, h1⟩; have H1 := Lib.hid h1; clear h1) | (go_at_call 31; (with_reducible refine (num1_any _ _).mono ?_); rintro e w14 ⟨rfl, rfl⟩))
          go_roundw
          case rel => exact ⟨1, by omega, by go_num, by rw [show 1 - r = 0 by omega]; rfl, H1.out⟩
          case measure => simp [intOf]
        · have hc1 : ∀ w : World, (convert 32 9 (.slice (some ⟨w.heap.size, 0, none⟩) 1 1)).run Try.prog (w.alloc (.cells #[.int .u8 50] 5)) = .ok (.string ⟨#[50]⟩) (w.alloc (.cells #[.int .u8 50] 5)) := fun w => hcs 50 w
          have HAP := Lib.hid (show (⟨#[102]⟩ ++ ⟨#[50]⟩ : ByteArray) = ⟨#[102, 50]⟩ by kernel_rfl)
          have HMM := Lib.hid (fun (w2 : World) (hb : Below wr.heap.size wr w2) => (show Calls Try.prog 26 #[.pointer (some ⟨p, 0, none⟩), .string ⟨#[102, 50]⟩] w2 fun e w' => e = .returned (.int .i64 0) ∧ On W w' p (cst r false 2) from HM.out w2 hb))
          clear hcs HM
          have hz : ¬ (1 : Int) + (r : Int) ≤ 2 := by omega
          go_wp2_with (first | (go_at_call 26; rw [HAP.out]; (with_reducible refine (HMM.out _ ((Below.refl _ _).alloc (Nat.le_refl _) _)).mono ?_); rintro e w1 ⟨rfl, h1⟩; have H1 := Lib.hid h1; clear h1) | (go_at_call 31; (with_reducible refine (num1_any _ _).mono ?_); rintro e w14 ⟨rfl, rfl⟩))
          go_roundw
          case rel => exact ⟨2, by omega, by go_num, by rw [show 2 - r = 1 - r by omega], H1.out⟩
          case measure => simp [intOf]
        · have hc1 : ∀ w : World, (convert 32 9 (.slice (some ⟨w.heap.size, 0, none⟩) 1 1)).run Try.prog (w.alloc (.cells #[.int .u8 51] 5)) = .ok (.string ⟨#[51]⟩) (w.alloc (.cells #[.int .u8 51] 5)) := fun w => hcs 51 w
          have HAP := Lib.hid (show (⟨#[102]⟩ ++ ⟨#[51]⟩ : ByteArray) = ⟨#[102, 51]⟩ by kernel_rfl)
          have HMM := Lib.hid (fun (w2 : World) (hb : Below wr.heap.size wr w2) => (show Calls Try.prog 26 #[.pointer (some ⟨p, 0, none⟩), .string ⟨#[102, 51]⟩] w2 fun e w' => e = .returned (.int .i64 0) ∧ On W w' p (cst r false 3) from HM.out w2 hb))
          clear hcs HM
          have hz : ¬ (1 : Int) + (r : Int) ≤ 3 := by omega
          go_wp2_with (first | (go_at_call 26; rw [HAP.out]; (with_reducible refine (HMM.out _ ((Below.refl _ _).alloc (Nat.le_refl _) _)).mono ?_); rintro e w1 ⟨rfl, h1⟩; have H1 := Lib.hid h1; clear h1) | (go_at_call 31; (with_reducible refine (num1_any _ _).mono ?_); rintro e w14 ⟨rfl, rfl⟩))
          go_roundw
          case rel => exact ⟨3, by omega, by go_num, by rw [show 3 - r = 2 - r by omega], H1.out⟩
          case measure => simp [intOf]
        · have hc1 : ∀ w : World, (convert 32 9 (.slice (some ⟨w.heap.size, 0, none⟩) 1 1)).run Try.prog (w.alloc (.cells #[.int .u8 52] 5)) = .ok (.string ⟨#[52]⟩) (w.alloc (.cells #[.int .u8 52] 5)) := fun w => hcs 52 w
          have HAP := Lib.hid (show (⟨#[102]⟩ ++ ⟨#[52]⟩ : ByteArray) = ⟨#[102, 52]⟩ by kernel_rfl)
          have HMM := Lib.hid (fun (w2 : World) (hb : Below wr.heap.size wr w2) => (show Calls Try.prog 26 #[.pointer (some ⟨p, 0, none⟩), .string ⟨#[102, 52]⟩] w2 fun e w' => e = .returned (.int .i64 0) ∧ On W w' p (cst r false 4) from HM.out w2 hb))
          clear hcs HM
          have hz : ¬ (1 : Int) + (r : Int) ≤ 4 := by omega
          go_wp2_with (first | (go_at_call 26; rw [HAP.out]; (with_reducible refine (HMM.out _ ((Below.refl _ _).alloc (Nat.le_refl _) _)).mono ?_); rintro e w1 ⟨rfl, h1⟩; have H1 := Lib.hid h1; clear h1) | (go_at_call 31; (with_reducible refine (num1_any _ _).mono ?_); rintro e w14 ⟨rfl, rfl⟩))
          go_roundw
          case rel => exact ⟨4, by omega, by go_num, by rw [show 4 - r = 3 - r by omega], H1.out⟩
          case measure => simp [intOf]
        · have hc1 : ∀ w : World, (convert 32 9 (.slice (some ⟨w.heap.size, 0, none⟩) 1 1)).run Try.prog (w.alloc (.cells #[.int .u8 53] 5)) = .ok (.string ⟨#[53]⟩) (w.alloc (.cells #[.int .u8 53] 5)) := fun w => hcs 53 w
          have HAP := Lib.hid (show (⟨#[102]⟩ ++ ⟨#[53]⟩ : ByteArray) = ⟨#[102, 53]⟩ by kernel_rfl)
          have HMM := Lib.hid (fun (w2 : World) (hb : Below wr.heap.size wr w2) => (show Calls Try.prog 26 #[.pointer (some ⟨p, 0, none⟩), .string ⟨#[102, 53]⟩] w2 fun e w' => e = .returned (.int .i64 0) ∧ On W w' p (cst r false 5) from HM.out w2 hb))
          clear hcs HM
          have hz : ¬ (1 : Int) + (r : Int) ≤ 5 := by omega
          go_wp2_with (first | (go_at_call 26; rw [HAP.out]; (with_reducible refine (HMM.out _ ((Below.refl _ _).alloc (Nat.le_refl _) _)).mono ?_); rintro e w1 ⟨rfl, h1⟩; have H1 := Lib.hid h1; clear h1) | (go_at_call 31; (with_reducible refine (num1_any _ _).mono ?_); rintro e w14 ⟨rfl, rfl⟩))
          go_roundw
          case rel => exact ⟨5, by omega, by go_num, by rw [show 5 - r = 4 - r by omega], H1.out⟩
          case measure => simp [intOf]
        · have hc1 : ∀ w : World, (convert 32 9 (.slice (some ⟨w.heap.size, 0, none⟩) 1 1)).run Try.prog (w.alloc (.cells #[.int .u8 54] 5)) = .ok (.string ⟨#[54]⟩) (w.alloc (.cells #[.int .u8 54] 5)) := fun w => hcs 54 w
          have HAP := Lib.hid (show (⟨#[102]⟩ ++ ⟨#[54]⟩ : ByteArray) = ⟨#[102, 54]⟩ by kernel_rfl)
          have HMM := Lib.hid (fun (w2 : World) (hb : Below wr.heap.size wr w2) => (show Calls Try.prog 26 #[.pointer (some ⟨p, 0, none⟩), .string ⟨#[102, 54]⟩] w2 fun e w' => e = .returned (.int .i64 0) ∧ On W w' p (cst r false 6) from HM.out w2 hb))
          clear hcs HM
          have hz : ¬ (1 : Int) + (r : Int) ≤ 6 := by omega
          go_wp2_with (first | (go_at_call 26; rw [HAP.out]; (with_reducible refine (HMM.out _ ((Below.refl _ _).alloc (Nat.le_refl _) _)).mono ?_); rintro e w1 ⟨rfl, h1⟩; have H1 := Lib.hid h1; clear h1) | (go_at_call 31; (with_reducible refine (num1_any _ _).mono ?_); rintro e w14 ⟨rfl, rfl⟩))
          go_roundw
          case rel => exact ⟨6, by omega, by go_num, by rw [show 6 - r = 5 - r by omega], H1.out⟩
          case measure => simp [intOf]
        · have hc1 : ∀ w : World, (convert 32 9 (.slice (some ⟨w.heap.size, 0, none⟩) 1 1)).run Try.prog (w.alloc (.cells #[.int .u8 55] 5)) = .ok (.string ⟨#[55]⟩) (w.alloc (.cells #[.int .u8 55] 5)) := fun w => hcs 55 w
          have HAP := Lib.hid (show (⟨#[102]⟩ ++ ⟨#[55]⟩ : ByteArray) = ⟨#[102, 55]⟩ by kernel_rfl)
          have HMM := Lib.hid (fun (w2 : World) (hb : Below wr.heap.size wr w2) => (show Calls Try.prog 26 #[.pointer (some ⟨p, 0, none⟩), .string ⟨#[102, 55]⟩] w2 fun e w' => e = .returned (.int .i64 0) ∧ On W w' p (cst r false 7) from HM.out w2 hb))
          clear hcs HM
          have hz : ¬ (1 : Int) + (r : Int) ≤ 7 := by omega
          go_wp2_with (first | (go_at_call 26; rw [HAP.out]; (with_reducible refine (HMM.out _ ((Below.refl _ _).alloc (Nat.le_refl _) _)).mono ?_); rintro e w1 ⟨rfl, h1⟩; have H1 := Lib.hid h1; clear h1) | (go_at_call 31; (with_reducible refine (num1_any _ _).mono ?_); rintro e w14 ⟨rfl, rfl⟩))
          go_roundw
          case rel => exact ⟨7, by omega, by go_num, by rw [show 7 - r = 6 - r by omega], H1.out⟩
          case measure => simp [intOf]
        · omega
    · have hm88 : m = 8 := by omega
      subst hm88
      have hk1 : (1 : Int) + (r : Int) - 1 = (r : Int) := by omega
      have hk2 : ((8 - r : Nat) : Int) = 9 - (1 + (r : Int)) := by omega
      go_wp2_with (first | (go_at_call 33; (with_reducible refine (HR.out _ _ HO.out).mono ?_); rintro e w2 ⟨xa, xc, rfl, h2⟩; have H2 := Lib.hid h2.on; clear h2) | (go_at_call 20; (with_reducible refine (HF.out _ _ H2.out).mono ?_); rintro e w3 ⟨ya, yc, rfl, h3⟩; have H3 := Lib.hid h3; clear h3) | (go_at_call 22; (with_reducible refine (HD.out _ _ H3.out).mono ?_); rintro e w4 ⟨rfl, rfl⟩) | (go_at_call 27; (with_reducible refine (HW.out _ _ H3.out).mono ?_); rintro e w5 ⟨rfl, h5⟩; have H5 := Lib.hid h5; clear h5) | (go_at_call 24; (with_reducible refine (HK.out _ _ H5.out).mono ?_); rintro e w6 ⟨rfl, rfl⟩) | (go_at_call 31; (with_reducible refine (num1_any _ _).mono ?_); rintro e w14 ⟨rfl, rfl⟩) | (go_at_call 14; (with_reducible refine (awake4_any _).mono ?_); rintro e w15 ⟨rfl, B15⟩))
      go_ret
      exact ⟨by first | rfl | (simp; done), H5.out.below.trans (Kept.below (Kept.of B15 (R := fun k => k < w5.heap.size) fun _ h => h) fun k hk => Nat.lt_of_lt_of_le hk H5.out.below.size)⟩

set_option maxRecDepth 100000 in
set_option maxHeartbeats 8000000 in
set_option linter.unusedSimpArgs false in
theorem crash_true (C : Int) (hC0 : 0 ≤ C) (hC : C ≤ 255) (r : Nat) (hr : r < 8) (hm : C % 8 = (r : Int)) (va : Option Addr) (ca : Nat) (la : List UInt8) (W : World) (h1 : RdB W (.slice va la.length ca) la) (l1 : la.length ≤ 100) :
    Calls Try.prog 6 #[.int .u8 C, .bool true, .slice va la.length ca] W fun e w' => e = .returned (.bool true) ∧ Below W.heap.size W w' := by
  have HN := Lib.hid (on_new W W (Below.refl _ _) 5000 (1 + (r : Int)) 0 true (.slice none 0 0))
  have HR := Lib.hid (fun (w : World) (p : Nat) (h : On W w p (cst r true 8)) => on_read h (cst_small r 8 true hr (by omega)) ⟨#[102, 49]⟩ (by decide) 0 1 [] 7 (cst_read r true hr 0 1))
  have HF := Lib.hid (fun (w : World) (p : Nat) (h : On W w p (cst r true 8)) => on_files_n h (cst_small r 8 true hr (by omega)) (r + 1) (cst_list r true hr))
  have HD := Lib.hid (fun (w : World) (p : Nat) (h : On W w p (cst r true 8)) => (show Calls Try.prog 22 #[.pointer (some ⟨p, 0, none⟩)] w fun e w' => e = .returned (.bool true) ∧ w = w' by have := on_down h; rw [cst_end r true hr] at this; exact this))
  have HW := Lib.hid (fun (w : World) (p : Nat) (h : On W w p (cst r true 8)) => on_write h (cst_small r 8 true hr (by omega)) (by have := cst_calls r 8 true hr (by omega); omega) ⟨#[102, 49]⟩ (by decide) 0 _ la h1 (by omega) 7 _ (cst_write r true hr 0 la))
  have HK := Lib.hid (fun (w : World) (p : Nat) (h : On W w p (cst r true 8)) => on_calls h (r + 1) (by rw [cst_end r true hr]))
  have hm1 : C.tmod 8 = (r : Int) := by rw [Int.tmod_eq_emod_of_nonneg hC0]; exact hm
  have g1 : ¬ (100 : Int) < (la.length : Int) := by omega
  clear h1
  go_enter Try.func6, Try.ntmps6
  go_wp2_with (first | (go_at_call 15; (with_reducible refine HN.out.mono ?_); rintro e w0 ⟨p, rfl, h0⟩; have H0 := Lib.hid h0; clear h0))
  go_loopw [9, 10] (fun b i wr => ∃ m : Nat, m ≤ 8 ∧ i = .int .i64 ((m : Int) + 1) ∧ b = .int .i64 ((m - r : Nat) : Int) ∧ On W wr p (cst r true m)) (fun _ i _ => 9 - (intOf i).toNat)
  case atStart => exact ⟨0, by omega, rfl, by rw [Nat.zero_sub]; rfl, H0.out⟩
  case round =>
    obtain ⟨m, hm8, rfl, rfl, ho⟩ := hrel
    have HO := Lib.hid ho
    clear ho
    by_cases hlt : m < 8
    · have hcase : m = 0 ∨ m = 1 ∨ m = 2 ∨ m = 3 ∨ m = 4 ∨ m = 5 ∨ m = 6 ∨ m = 7 := by omega
      have HM := Lib.hid (fun (w2 : World) (hb : Below wr.heap.size wr w2) => on_make_new HO.out hb (cst_small r m true hr hm8) (by have := cst_calls r m true hr hm8; omega) ⟨#[102, 49 + UInt8.ofNat m]⟩ (by show 2 ≤ maxLen; unfold maxLen; omega) _ _ (cst_step r m true hr hlt))
      have hcs := fun (c : UInt8) (w : World) => rdB_convert (P := Try.prog) (rd_cell1 w c) 32 5 9 Try.underlying32 Try.underlying5 Try.underlying9
      by_cases hge : r ≤ m
      · rw [if_pos hge] at HM
        rcases hcase with rfl | rfl | rfl | rfl | rfl | rfl | rfl | rfl
        · have hc1 : ∀ w : World, (convert 32 9 (.slice (some ⟨w.heap.size, 0, none⟩) 1 1)).run Try.prog (w.alloc (.cells #[.int .u8 49] 5)) = .ok (.string ⟨#[49]⟩) (w.alloc (.cells #[.int .u8 49] 5)) := fun w => hcs 49 w
          have HAP := Lib.hid (show (⟨#[102]⟩ ++ ⟨#[49]⟩ : ByteArray) = ⟨#[102, 49]⟩ by kernel_rfl)
          have HMM := Lib.hid (fun (w2 : World) (hb : Below wr.heap.size wr w2) => (show Calls Try.prog 26 #[.pointer (some ⟨p, 0, none⟩), .string ⟨#[102, 49]⟩] w2 fun e w' => e = .returned (.int .i64 7) ∧ On W w' p (cst r true 1) from HM.out w2 hb))
          clear hcs HM
          have hz : (1 : Int) + (r : Int) ≤ 1 := by omega
          go_wp2_with (first | (go_at_call 26; rw [HAP.out]; (with_reducible refine (HMM.out _ ((Below.refl _ _).alloc (Nat.le_refl _) _)).mono ?_); rintro e w1 ⟨rfl, h1⟩; have H1 := Lib.hid h1; clear h1) | (go_at_call 31; (with_reducible refine (num1_any _ _).mono ?_); rintro e w14 ⟨rfl, rfl⟩))
          go_roundw
          case rel => exact ⟨1, by omega, by go_num, by rw [show 1 - r = (0 - r) + 1 by omega]; go_num, H1.out⟩
          case measure => simp [intOf]
        · have hc1 : ∀ w : World, (convert 32 9 (.slice (some ⟨w.heap.size, 0, none⟩) 1 1)).run Try.prog (w.alloc (.cells #[.int .u8 50] 5)) = .ok (.string ⟨#[50]⟩) (w.alloc (.cells #[.int .u8 50] 5)) := fun w => hcs 50 w
          have HAP := Lib.hid (show (⟨#[102]⟩ ++ ⟨#[50]⟩ : ByteArray) = ⟨#[102, 50]⟩ by kernel_rfl)
          have HMM := Lib.hid (fun (w2 : World) (hb : Below wr.heap.size wr w2) => (show Calls Try.prog 26 #[.pointer (some ⟨p, 0, none⟩), .string ⟨#[102, 50]⟩] w2 fun e w' => e = .returned (.int .i64 7) ∧ On W w' p (cst r true 2) from HM.out w2 hb))
          clear hcs HM
          have hz : (1 : Int) + (r : Int) ≤ 2 := by omega
          go_wp2_with (first | (go_at_call 26; rw [HAP.out]; (with_reducible refine (HMM.out _ ((Below.refl _ _).alloc (Nat.le_refl _) _)).mono ?_); rintro e w1 ⟨rfl, h1⟩; have H1 := Lib.hid h1; clear h1) | (go_at_call 31; (with_reducible refine (num1_any _ _).mono ?_); rintro e w14 ⟨rfl, rfl⟩))
          go_roundw
          case rel => exact ⟨2, by omega, by go_num, by rw [show 2 - r = (1 - r) + 1 by omega]; go_num, H1.out⟩
          case measure => simp [intOf]
        · have hc1 : ∀ w : World, (convert 32 9 (.slice (some ⟨w.heap.size, 0, none⟩) 1 1)).run Try.prog (w.alloc (.cells #[.int .u8 51] 5)) = .ok (.string ⟨#[51]⟩) (w.alloc (.cells #[.int .u8 51] 5)) := fun w => hcs 51 w
          have HAP := Lib.hid (show (⟨#[102]⟩ ++ ⟨#[51]⟩ : ByteArray) = ⟨#[102, 51]⟩ by kernel_rfl)
          have HMM := Lib.hid (fun (w2 : World) (hb : Below wr.heap.size wr w2) => (show Calls Try.prog 26 #[.pointer (some ⟨p, 0, none⟩), .string ⟨#[102, 51]⟩] w2 fun e w' => e = .returned (.int .i64 7) ∧ On W w' p (cst r true 3) from HM.out w2 hb))
          clear hcs HM
          have hz : (1 : Int) + (r : Int) ≤ 3 := by omega
          go_wp2_with (first | (go_at_call 26; rw [HAP.out]; (with_reducible refine (HMM.out _ ((Below.refl _ _).alloc (Nat.le_refl _) _)).mono ?_); rintro e w1 ⟨rfl, h1⟩; have H1 := Lib.hid h1; clear h1) | (go_at_call 31; (with_reducible refine (num1_any _ _).mono ?_); rintro e w14 ⟨rfl, rfl⟩))
          go_roundw
          case rel => exact ⟨3, by omega, by go_num, by rw [show 3 - r = (2 - r) + 1 by omega]; go_num, H1.out⟩
          case measure => simp [intOf]
        · have hc1 : ∀ w : World, (convert 32 9 (.slice (some ⟨w.heap.size, 0, none⟩) 1 1)).run Try.prog (w.alloc (.cells #[.int .u8 52] 5)) = .ok (.string ⟨#[52]⟩) (w.alloc (.cells #[.int .u8 52] 5)) := fun w => hcs 52 w
          have HAP := Lib.hid (show (⟨#[102]⟩ ++ ⟨#[52]⟩ : ByteArray) = ⟨#[102, 52]⟩ by kernel_rfl)
          have HMM := Lib.hid (fun (w2 : World) (hb : Below wr.heap.size wr w2) => (show Calls Try.prog 26 #[.pointer (some ⟨p, 0, none⟩), .string ⟨#[102, 52]⟩] w2 fun e w' => e = .returned (.int .i64 7) ∧ On W w' p (cst r true 4) from HM.out w2 hb))
          clear hcs HM
          have hz : (1 : Int) + (r : Int) ≤ 4 := by omega
          go_wp2_with (first | (go_at_call 26; rw [HAP.out]; (with_reducible refine (HMM.out _ ((Below.refl _ _).alloc (Nat.le_refl _) _)).mono ?_); rintro e w1 ⟨rfl, h1⟩; have H1 := Lib.hid h1; clear h1) | (go_at_call 31; (with_reducible refine (num1_any _ _).mono ?_); rintro e w14 ⟨rfl, rfl⟩))
          go_roundw
          case rel => exact ⟨4, by omega, by go_num, by rw [show 4 - r = (3 - r) + 1 by omega]; go_num, H1.out⟩
          case measure => simp [intOf]
        · have hc1 : ∀ w : World, (convert 32 9 (.slice (some ⟨w.heap.size, 0, none⟩) 1 1)).run Try.prog (w.alloc (.cells #[.int .u8 53] 5)) = .ok (.string ⟨#[53]⟩) (w.alloc (.cells #[.int .u8 53] 5)) := fun w => hcs 53 w
          have HAP := Lib.hid (show (⟨#[102]⟩ ++ ⟨#[53]⟩ : ByteArray) = ⟨#[102, 53]⟩ by kernel_rfl)
          have HMM := Lib.hid (fun (w2 : World) (hb : Below wr.heap.size wr w2) => (show Calls Try.prog 26 #[.pointer (some ⟨p, 0, none⟩), .string ⟨#[102, 53]⟩] w2 fun e w' => e = .returned (.int .i64 7) ∧ On W w' p (cst r true 5) from HM.out w2 hb))
          clear hcs HM
          have hz : (1 : Int) + (r : Int) ≤ 5 := by omega
          go_wp2_with (first | (go_at_call 26; rw [HAP.out]; (with_reducible refine (HMM.out _ ((Below.refl _ _).alloc (Nat.le_refl _) _)).mono ?_); rintro e w1 ⟨rfl, h1⟩; have H1 := Lib.hid h1; clear h1) | (go_at_call 31; (with_reducible refine (num1_any _ _).mono ?_); rintro e w14 ⟨rfl, rfl⟩))
          go_roundw
          case rel => exact ⟨5, by omega, by go_num, by rw [show 5 - r = (4 - r) + 1 by omega]; go_num, H1.out⟩
          case measure => simp [intOf]
        · have hc1 : ∀ w : World, (convert 32 9 (.slice (some ⟨w.heap.size, 0, none⟩) 1 1)).run Try.prog (w.alloc (.cells #[.int .u8 54] 5)) = .ok (.string ⟨#[54]⟩) (w.alloc (.cells #[.int .u8 54] 5)) := fun w => hcs 54 w
          have HAP := Lib.hid (show (⟨#[102]⟩ ++ ⟨#[54]⟩ : ByteArray) = ⟨#[102, 54]⟩ by kernel_rfl)
          have HMM := Lib.hid (fun (w2 : World) (hb : Below wr.heap.size wr w2) => (show Calls Try.prog 26 #[.pointer (some ⟨p, 0, none⟩), .string ⟨#[102, 54]⟩] w2 fun e w' => e = .returned (.int .i64 7) ∧ On W w' p (cst r true 6) from HM.out w2 hb))
          clear hcs HM
          have hz : (1 : Int) + (r : Int) ≤ 6 := by omega
          go_wp2_with (first | (go_at_call 26; rw [HAP.out]; (with_reducible refine (HMM.out _ ((Below.refl _ _).alloc (Nat.le_refl _) _)).mono ?_); rintro e w1 ⟨rfl, h1⟩; have H1 := Lib.hid h1; clear h1) | (go_at_call 31; (with_reducible refine (num1_any _ _).mono ?_); rintro e w14 ⟨rfl, rfl⟩))
          go_roundw
          case rel => exact ⟨6, by omega, by go_num, by rw [show 6 - r = (5 - r) + 1 by omega]; go_num, H1.out⟩
          case measure => simp [intOf]
        · have hc1 : ∀ w : World, (convert 32 9 (.slice (some ⟨w.heap.size, 0, none⟩) 1 1)).run Try.prog (w.alloc (.cells #[.int .u8 55] 5)) = .ok (.string ⟨#[55]⟩) (w.alloc (.cells #[.int .u8 55] 5)) := fun w => hcs 55 w
          have HAP := Lib.hid (show (⟨#[102]⟩ ++ ⟨#[55]⟩ : ByteArray) = ⟨#[102, 55]⟩ by kernel_rfl)
          have HMM := Lib.hid (fun (w2 : World) (hb : Below wr.heap.size wr w2) => (show Calls Try.prog 26 #[.pointer (some ⟨p, 0, none⟩), .string ⟨#[102, 55]⟩] w2 fun e w' => e = .returned (.int .i64 7) ∧ On W w' p (cst r true 7) from HM.out w2 hb))
          clear hcs HM
          have hz : (1 : Int) + (r : Int) ≤ 7 := by omega
          go_wp2_with (first | (go_at_call 26; rw [HAP.out]; (with_reducible refine (HMM.out _ ((Below.refl _ _).alloc (Nat.le_refl _) _)).mono ?_); rintro e w1 ⟨rfl, h1⟩; have H1 := Lib.hid h1; clear h1) | (go_at_call 31; (with_reducible refine (num1_any _ _).mono ?_); rintro e w14 ⟨rfl, rfl⟩))
          go_roundw
          case rel => exact ⟨7, by omega, by go_num, by rw [show 7 - r = (6 - r) + 1 by omega]; go_num, H1.out⟩
          case measure => simp [intOf]
        · have hc1 : ∀ w : World, (convert 32 9 (.slice (some ⟨w.heap.size, 0, none⟩) 1 1)).run Try.prog (w.alloc (.cells #[.int .u8 56] 5)) = .ok (.string ⟨#[56]⟩) (w.alloc (.cells #[.int .u8 56] 5)) := fun w => hcs 56 w
          have HAP := Lib.hid (show (⟨#[102]⟩ ++ ⟨#[56]⟩ : ByteArray) = ⟨#[102, 56]⟩ by kernel_rfl)
          have HMM := Lib.hid (fun (w2 : World) (hb : Below wr.heap.size wr w2) => (show Calls Try.prog 26 #[.pointer (some ⟨p, 0, none⟩), .string ⟨#[102, 56]⟩] w2 fun e w' => e = .returned (.int .i64 7) ∧ On W w' p (cst r true 8) from HM.out w2 hb))
          clear hcs HM
          have hz : (1 : Int) + (r : Int) ≤ 8 := by omega
          go_wp2_with (first | (go_at_call 26; rw [HAP.out]; (with_reducible refine (HMM.out _ ((Below.refl _ _).alloc (Nat.le_refl _) _)).mono ?_); rintro e w1 ⟨rfl, h1⟩; have H1 := Lib.hid h1; clear h1) | (go_at_call 31; (with_reducible refine (num1_any _ _).mono ?_); rintro e w14 ⟨rfl, rfl⟩))
          go_roundw
          case rel => exact ⟨8, by omega, by go_num, by rw [show 8 - r = (7 - r) + 1 by omega]; go_num, H1.out⟩
          case measure => simp [intOf]
      · rw [if_neg hge] at HM
        rcases hcase with rfl | rfl | rfl | rfl | rfl | rfl | rfl | rfl
        · have hc1 : ∀ w : World, (convert 32 9 (.slice (some ⟨w.heap.size, 0, none⟩) 1 1)).run Try.prog (w.alloc (.cells #[.int .u8 49] 5)) = .ok (.string ⟨#[49]⟩) (w.alloc (.cells #[.int .u8 49] 5)) := fun w => hcs 49 w
          have HAP := Lib.hid (show (⟨#[102]⟩ ++ ⟨#[49]⟩ : ByteArray) = ⟨#[102, 49]⟩ by kernel_rfl)
          have HMM := Lib.hid (fun (w2 : World) (hb : Below wr.heap.size wr w2) => (show Calls Try.prog 26 #[.pointer (some ⟨p, 0, none⟩), .string ⟨#[102, 49]⟩] w2 fun e w' => e = .returned (.int .i64 0) ∧ On W w' p (cst r true 1) from HM.out w2 hb))
          clear hcs HM
          have hz : ¬ (1 : Int) + (r : Int) ≤ 1 := by omega
          go_wp2_with (first | (go_at_call 26; rw [HAP.out]; (with_reducible refine (HMM.out _ ((Below.refl _ _).alloc (Nat.le_refl _) _)).mono ?_); rintro e w1 ⟨rfl, h1⟩; have H1 := Lib.hid h1; clear h1) | (go_at_call 31; (with_reducible refine (num1_any _ _).mono ?_); rintro e w14 ⟨rfl, rfl⟩))
          go_roundw
          case rel => exact ⟨1, by omega, by go_num, by rw [show 1 - r = 0 by omega]; rfl, H1.out⟩
          case measure => simp [intOf]
        · have hc1 : ∀ w : World, (convert 32 9 (.slice (some ⟨w.heap.size, 0, none⟩) 1 1)).run Try.prog (w.alloc (.cells #[.int .u8 50] 5)) = .ok (.string ⟨#[50]⟩) (w.alloc (.cells #[.int .u8 50] 5)) := fun w => hcs 50 w
          have HAP := Lib.hid (show (⟨#[102]⟩ ++ ⟨#[50]⟩ : ByteArray) = ⟨#[102, 50]⟩ by kernel_rfl)
          have HMM := Lib.hid (fun (w2 : World) (hb : Below wr.heap.size wr w2) => (show Calls Try.prog 26 #[.pointer (some ⟨p, 0, none⟩), .string ⟨#[102, 50]⟩] w2 fun e w' => e = .returned (.int .i64 0) ∧ On W w' p (cst r true 2) from HM.out w2 hb))
          clear hcs HM
          have hz : ¬ (1 : Int) + (r : Int) ≤ 2 := by omega
          go_wp2_with (first | (go_at_call 26; rw [HAP.out]; (with_reducible refine (HMM.out _ ((Below.refl _ _).alloc (Nat.le_refl _) _)).mono ?_); rintro e w1 ⟨rfl, h1⟩; have H1 := Lib.hid h1; clear h1) | (go_at_call 31; (with_reducible refine (num1_any _ _).mono ?_); rintro e w14 ⟨rfl, rfl⟩))
          go_roundw
          case rel => exact ⟨2, by omega, by go_num, by rw [show 2 - r = 1 - r by omega], H1.out⟩
          case measure => simp [intOf]
        · have hc1 : ∀ w : World, (convert 32 9 (.slice (some ⟨w.heap.size, 0, none⟩) 1 1)).run Try.prog (w.alloc (.cells #[.int .u8 51] 5)) = .ok (.string ⟨#[51]⟩) (w.alloc (.cells #[.int .u8 51] 5)) := fun w => hcs 51 w
          have HAP := Lib.hid (show (⟨#[102]⟩ ++ ⟨#[51]⟩ : ByteArray) = ⟨#[102, 51]⟩ by kernel_rfl)
          have HMM := Lib.hid (fun (w2 : World) (hb : Below wr.heap.size wr w2) => (show Calls Try.prog 26 #[.pointer (some ⟨p, 0, none⟩), .string ⟨#[102, 51]⟩] w2 fun e w' => e = .returned (.int .i64 0) ∧ On W w' p (cst r true 3) from HM.out w2 hb))
          clear hcs HM
          have hz : ¬ (1 : Int) + (r : Int) ≤ 3 := by omega
          go_wp2_with (first | (go_at_call 26; rw [HAP.out]; (with_reducible refine (HMM.out _ ((Below.refl _ _).alloc (Nat.le_refl _) _)).mono ?_); rintro e w1 ⟨rfl, h1⟩; have H1 := Lib.hid h1; clear h1) | (go_at_call 31; (with_reducible refine (num1_any _ _).mono ?_); rintro e w14 ⟨rfl, rfl⟩))
          go_roundw
          case rel => exact ⟨3, by omega, by go_num, by rw [show 3 - r = 2 - r by omega], H1.out⟩
          case measure => simp [intOf]
        · have hc1 : ∀ w : World, (convert 32 9 (.slice (some ⟨w.heap.size, 0, none⟩) 1 1)).run Try.prog (w.alloc (.cells #[.int .u8 52] 5)) = .ok (.string ⟨#[52]⟩) (w.alloc (.cells #[.int .u8 52] 5)) := fun w => hcs 52 w
          have HAP := Lib.hid (show (⟨#[102]⟩ ++ ⟨#[52]⟩ : ByteArray) = ⟨#[102, 52]⟩ by kernel_rfl)
          have HMM := Lib.hid (fun (w2 : World) (hb : Below wr.heap.size wr w2) => (show Calls Try.prog 26 #[.pointer (some ⟨p, 0, none⟩), .string ⟨#[102, 52]⟩] w2 fun e w' => e = .returned (.int .i64 0) ∧ On W w' p (cst r true 4) from HM.out w2 hb))
          clear hcs HM
          have hz : ¬ (1 : Int) + (r : Int) ≤ 4 := by omega
          go_wp2_with (first | (go_at_call 26; rw [HAP.out]; (with_reducible refine (HMM.out _ ((Below.refl _ _).alloc (Nat.le_refl _) _)).mono ?_); rintro e w1 ⟨rfl, h1⟩; have H1 := Lib.hid h1; clear h1) | (go_at_call 31; (with_reducible refine (num1_any _ _).mono ?_); rintro e w14 ⟨rfl, rfl⟩))
          go_roundw
          case rel => exact ⟨4, by omega, by go_num, by rw [show 4 - r = 3 - r by omega], H1.out⟩
          case measure => simp [intOf]
        · have hc1 : ∀ w : World, (convert 32 9 (.slice (some ⟨w.heap.size, 0, none⟩) 1 1)).run Try.prog (w.alloc (.cells #[.int .u8 53] 5)) = .ok (.string ⟨#[53]⟩) (w.alloc (.cells #[.int .u8 53] 5)) := fun w => hcs 53 w
          have HAP := Lib.hid (show (⟨#[102]⟩ ++ ⟨#[53]⟩ : ByteArray) = ⟨#[102, 53]⟩ by kernel_rfl)
          have HMM := Lib.hid (fun (w2 : World) (hb : Below wr.heap.size wr w2) => (show Calls Try.prog 26 #[.pointer (some ⟨p, 0, none⟩), .string ⟨#[102, 53]⟩] w2 fun e w' => e = .returned (.int .i64 0) ∧ On W w' p (cst r true 5) from HM.out w2 hb))
          clear hcs HM
          have hz : ¬ (1 : Int) + (r : Int) ≤ 5 := by omega
          go_wp2_with (first | (go_at_call 26; rw [HAP.out]; (with_reducible refine (HMM.out _ ((Below.refl _ _).alloc (Nat.le_refl _) _)).mono ?_); rintro e w1 ⟨rfl, h1⟩; have H1 := Lib.hid h1; clear h1) | (go_at_call 31; (with_reducible refine (num1_any _ _).mono ?_); rintro e w14 ⟨rfl, rfl⟩))
          go_roundw
          case rel => exact ⟨5, by omega, by go_num, by rw [show 5 - r = 4 - r by omega], H1.out⟩
          case measure => simp [intOf]
        · have hc1 : ∀ w : World, (convert 32 9 (.slice (some ⟨w.heap.size, 0, none⟩) 1 1)).run Try.prog (w.alloc (.cells #[.int .u8 54] 5)) = .ok (.string ⟨#[54]⟩) (w.alloc (.cells #[.int .u8 54] 5)) := fun w => hcs 54 w
          have HAP := Lib.hid (show (⟨#[102]⟩ ++ ⟨#[54]⟩ : ByteArray) = ⟨#[102, 54]⟩ by kernel_rfl)
          have HMM := Lib.hid (fun (w2 : World) (hb : Below wr.heap.size wr w2) => (show Calls Try.prog 26 #[.pointer (some ⟨p, 0, none⟩), .string ⟨#[102, 54]⟩] w2 fun e w' => e = .returned (.int .i64 0) ∧ On W w' p (cst r true 6) from HM.out w2 hb))
          clear hcs HM
          have hz : ¬ (1 : Int) + (r : Int) ≤ 6 := by omega
          go_wp2_with (first | (go_at_call 26; rw [HAP.out]; (with_reducible refine (HMM.out _ ((Below.refl _ _).alloc (Nat.le_refl _) _)).mono ?_); rintro e w1 ⟨rfl, h1⟩; have H1 := Lib.hid h1; clear h1) | (go_at_call 31; (with_reducible refine (num1_any _ _).mono ?_); rintro e w14 ⟨rfl, rfl⟩))
          go_roundw
          case rel => exact ⟨6, by omega, by go_num, by rw [show 6 - r = 5 - r by omega], H1.out⟩
          case measure => simp [intOf]
        · have hc1 : ∀ w : World, (convert 32 9 (.slice (some ⟨w.heap.size, 0, none⟩) 1 1)).run Try.prog (w.alloc (.cells #[.int .u8 55] 5)) = .ok (.string ⟨#[55]⟩) (w.alloc (.cells #[.int .u8 55] 5)) := fun w => hcs 55 w
          have HAP := Lib.hid (show (⟨#[102]⟩ ++ ⟨#[55]⟩ : ByteArray) = ⟨#[102, 55]⟩ by kernel_rfl)
          have HMM := Lib.hid (fun (w2 : World) (hb : Below wr.heap.size wr w2) => (show Calls Try.prog 26 #[.pointer (some ⟨p, 0, none⟩), .string ⟨#[102, 55]⟩] w2 fun e w' => e = .returned (.int .i64 0) ∧ On W w' p (cst r true 7) from HM.out w2 hb))
          clear hcs HM
          have hz : ¬ (1 : Int) + (r : Int) ≤ 7 := by omega
          go_wp2_with (first | (go_at_call 26; rw [HAP.out]; (with_reducible refine (HMM.out _ ((Below.refl _ _).alloc (Nat.le_refl _) _)).mono ?_); rintro e w1 ⟨rfl, h1⟩; have H1 := Lib.hid h1; clear h1) | (go_at_call 31; (with_reducible refine (num1_any _ _).mono ?_); rintro e w14 ⟨rfl, rfl⟩))
          go_roundw
          case rel => exact ⟨7, by omega, by go_num, by rw [show 7 - r = 6 - r by omega], H1.out⟩
          case measure => simp [intOf]
        · omega
    · have hm88 : m = 8 := by omega
      subst hm88
      have hk1 : (1 : Int) + (r : Int) - 1 = (r : Int) := by omega
      have hk2 : ((8 - r : Nat) : Int) = 9 - (1 + (r : Int)) := by omega
      go_wp2_with (first | (go_at_call 33; (with_reducible refine (HR.out _ _ HO.out).mono ?_); rintro e w2 ⟨xa, xc, rfl, h2⟩; have H2 := Lib.hid h2.on; clear h2) | (go_at_call 20; (with_reducible refine (HF.out _ _ H2.out).mono ?_); rintro e w3 ⟨ya, yc, rfl, h3⟩; have H3 := Lib.hid h3; clear h3) | (go_at_call 22; (with_reducible refine (HD.out _ _ H3.out).mono ?_); rintro e w4 ⟨rfl, rfl⟩) | (go_at_call 27; (with_reducible refine (HW.out _ _ H3.out).mono ?_); rintro e w5 ⟨rfl, h5⟩; have H5 := Lib.hid h5; clear h5) | (go_at_call 24; (with_reducible refine (HK.out _ _ H5.out).mono ?_); rintro e w6 ⟨rfl, rfl⟩) | (go_at_call 31; (with_reducible refine (num1_any _ _).mono ?_); rintro e w14 ⟨rfl, rfl⟩) | (go_at_call 14; (with_reducible refine (awake4_any _).mono ?_); rintro e w15 ⟨rfl, B15⟩))
      go_ret
      exact ⟨by first | rfl | (simp; done), H5.out.below.trans (Kept.below (Kept.of B15 (R := fun k => k < w5.heap.size) fun _ h => h) fun k hk => Nat.lt_of_lt_of_le hk H5.out.below.size)⟩

set_option maxRecDepth 100000 in
set_option maxHeartbeats 8000000 in
set_option linter.unusedSimpArgs false in
theorem diskCrash_walk (C : Int) (dn : Bool) (v : Value) (l : List UInt8) (W : World) (hC : (Lit.int .u8 C).wf = true) (hv : RdB W v l) :
    Calls Try.prog 6 #[.int .u8 C, .bool dn, v] W fun e w' => e = .returned (.bool true) ∧ Below W.heap.size W w' := by
  have hb := Go.bounds_u8 hC
  have hv0 := hv
  obtain ⟨va, vc, rfl, _, _⟩ := RdB.form hv
  obtain ⟨c, rfl⟩ := Int.eq_ofNat_of_zero_le hb.1
  by_cases hl : l.length ≤ 100
  · cases dn
    · exact crash_false (c : Int) hb.1 hb.2 (c % 8) (by omega) (by omega) va vc l W hv0 hl
    · exact crash_true (c : Int) hb.1 hb.2 (c % 8) (by omega) (by omega) va vc l W hv0 hl
  · clear hv hv0 hC hb
    go_enter Try.func6, Try.ntmps6
    go_wp2_with (go_at_call 14; (with_reducible refine (awake4_any _).mono ?_); rintro e w15 ⟨rfl, B15⟩)
    go_ret
    exact ⟨rfl, B15⟩
end Go.Proofs.Ytaljebhiacglpaa
