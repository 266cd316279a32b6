import Derived.Test.YtmlijnekidihbaaMg05
import Derived.OpenShut

/-
  The walk of CacheBounds.
-/
namespace Go.Proofs.Ytmlijnekidihbaa
open Go.RowKit

theorem put_some {n : Nat} {nm : ByteArray} {pc : Int} {b : List UInt8} {T T' : List (CKey × List UInt8)} (h : PutT n true nm pc b T T') (hn : 0 < n) (h0 : lookC T (nm, pc) = none ∨ keptC nm pc b = true) : (lookC T' (nm, pc)).isSome = keptC nm pc b := by
  obtain ⟨_, _, h2⟩ := h
  by_cases hk : keptC nm pc b = true
  · rw [if_pos ⟨hk, hn, rfl⟩] at h2
    rw [h2, hk]; rfl
  · rw [if_neg (fun h => hk h.1)] at h2
    have h1 := h0.resolve_right hk
    rw [h1] at h2
    rw [Bool.not_eq_true] at hk
    rw [hk]
    rcases h2 with h2 | h2 | h2
    · rw [h2]; rfl
    · rw [h2]; rfl
    · exact absurd (hk.symm.trans h2.1) (by simp)
theorem put_other {n : Nat} {ok : Bool} {nm : ByteArray} {pc : Int} {b : List UInt8} {T T' : List (CKey × List UInt8)} (h : PutT n ok nm pc b T T') {x : CKey} (hx : x ≠ (nm, pc)) (h0 : lookC T x = none) : lookC T' x = none := by
  rcases h.2.1 x hx with h1 | h1
  · rw [h1, h0]
  · exact h1
theorem x_read (w : World) : RdB (w.alloc (.cells #[.int .u8 120] 5 (1, 2))) (.slice (some ⟨w.heap.size, 0, none⟩) 1 1) [120] :=
  ⟨_, 1, rfl, Nat.le_refl _, by unfold maxLen; omega, rfl, .inr ⟨w.heap.size, 0, rfl, by simp, fun j u hj => by rw [Nat.zero_add, World.cell?_alloc_mark]; simpa [bv] using hj⟩⟩
theorem y_read (w : World) : RdB (w.alloc (.cells #[.int .u8 121] 5 (1, 2))) (.slice (some ⟨w.heap.size, 0, none⟩) 1 1) [121] :=
  ⟨_, 1, rfl, Nat.le_refl _, by unfold maxLen; omega, rfl, .inr ⟨w.heap.size, 0, rfl, by simp, fun j u hj => by rw [Nat.zero_add, World.cell?_alloc_mark]; simpa [bv] using hj⟩⟩
abbrev anyD : CKey → List UInt8 → Prop := fun _ _ => True
theorem caw_putB {Dk : (CKey → List UInt8 → Prop) → Bool → Nat → (Nat → Prop) → World → Nat → Prop} {Ca : (CKey → List UInt8 → Prop) → Nat → Bool → Nat → (Nat → Prop) → World → Nat → Nat → List (CKey × List UInt8) → Prop} (hi : CacheC Dk Ca) {k q p : Nat} {W w w0 : World} {T : List (CKey × List UInt8)} (h : CaW Ca anyD 4 true k W w q p T) (hk : k ≤ 150) (nm : ByteArray) (pc : Int) (v : Value) (b : List UInt8) (hb0 : Below w.heap.size w w0) (hr : RdB w0 v b) (hv : ∀ j, v.ownBlock = some j → w.heap.size ≤ j) (hn : nm.size ≤ 1000) (hp : (Lit.int .i64 pc).wf = true) (hl : b.length ≤ 1000) (h0 : lookC T (nm, pc) = none ∨ keptC nm pc b = true) :
    Calls Try.prog 14 #[.pointer (some ⟨q, 0, none⟩), .string nm, .int .i64 pc, v] w0 fun e w' => e = .returned (.tuple #[]) ∧ ∃ T', CaW Ca anyD 4 true (k + 1) W w' q p T' ∧ (lookC T' (nm, pc)).isSome = keptC nm pc b ∧ ∀ x, x ≠ (nm, pc) → lookC T x = none → lookC T' x = none :=
  (caw_put hi h hk nm pc v b hb0 hr hv trivial hn hp hl).mono fun _ _ ⟨h1, T', h2, h3⟩ => ⟨h1, T', h2, put_some h3 (by omega) h0, fun _ hx => put_other h3 hx⟩
theorem caw_getB {Dk : (CKey → List UInt8 → Prop) → Bool → Nat → (Nat → Prop) → World → Nat → Prop} {Ca : (CKey → List UInt8 → Prop) → Nat → Bool → Nat → (Nat → Prop) → World → Nat → Nat → List (CKey × List UInt8) → Prop} (hi : CacheC Dk Ca) {k q p : Nat} {W w : World} {T : List (CKey × List UInt8)} (h : CaW Ca anyD 4 true k W w q p T) (hk : k ≤ 150) (nm : ByteArray) (pc : Int) (hn : nm.size ≤ 1000) (hp : (Lit.int .i64 pc).wf = true) (b : Bool) (hb : (lookC T (nm, pc)).isSome = b) :
    Calls Try.prog 11 #[.pointer (some ⟨q, 0, none⟩), .string nm, .int .i64 pc] w fun e w' => ∃ va m vc, e = .returned (.tuple #[.slice va m vc, .bool b]) ∧ ∃ T', CaW Ca anyD 4 true (k + 1) W w' q p T' ∧ ∀ x, lookC T x = none → lookC T' x = none :=
  (caw_get hi h hk nm pc hn hp).mono fun _ _ ⟨x, h1, h2, T', h3, h4, _⟩ => by
    obtain ⟨va, vc, rfl, _, _⟩ := h2.form
    rw [hb] at h1
    exact ⟨va, _, vc, h1, T', h3, fun y hy => by rw [(h4 rfl).2 y, hy]⟩

set_option maxRecDepth 100000 in
set_option maxHeartbeats 1000000 in
theorem cacheBounds_walkC {Dk : (CKey → List UInt8 → Prop) → Bool → Nat → (Nat → Prop) → World → Nat → Prop} {Ca : (CKey → List UInt8 → Prop) → Nat → Bool → Nat → (Nat → Prop) → World → Nat → Nat → List (CKey × List UInt8) → Prop} (hi : CacheC Dk Ca) (a0 : Int) (pc : Int) (nm : ByteArray) (W : World) (wa0 : (Lit.int .u16 a0).wf = true) (wp : (Lit.int .i64 pc).wf = true) (_hs : nm.size ≤ maxLen) :
    Calls Try.prog 7 #[.int .u16 a0, .int .i64 pc, .string nm] W fun r w' => r = .returned (.bool true) ∧ Below W.heap.size W w' := by
  have HAW := Lib.hid (awake16_any hi)
  have HI := Lib.hid hi
  have n0 := bounds_u16 wa0
  obtain ⟨lo, rfl⟩ : ∃ n : Nat, a0 = (n : Int) := ⟨a0.toNat, by omega⟩
  clear wa0 hi
  by_cases c1 : 100 < nm.size
  · have d1 : 100 < (nm.size : Int) := by omega
    go_enter Try.func7, Try.ntmps7
    go_wp2_with (go_at_call 8; (refine (HAW.out _).mono ?_); rintro e w9 ⟨rfl, hb9⟩; have HB9 := Lib.hid hb9; clear hb9)
    go_ret
    exact ⟨rfl, HB9.out⟩
  · have d1 : ¬ 100 < (nm.size : Int) := by omega
    obtain ⟨n, hn⟩ : ∃ n, lo % 700 = n := ⟨_, rfl⟩
    have r1 : (lo : Int).tmod 700 = (n : Int) := by rw [Int.tmod_eq_emod_of_nonneg (by omega)]; omega
    have r2 : (lo : Int) % 700 = (n : Int) := by omega
    have hn7 : n < 700 := by omega
    have HN := Lib.hid (caw_new HI.out anyD (Below.refl W.heap.size W) 1048576 0 0 false (.slice none 0 0) (by omega) (by omega) (by omega) true rfl)
    have HWP := Lib.hid wp
    obtain ⟨b1, hb1⟩ : ∃ b1, keptC ⟨#[97]⟩ 1 (List.replicate n 0) = b1 := ⟨_, rfl⟩
    obtain ⟨b2, hb2⟩ : ∃ b2, keptC ⟨#[98]⟩ pc [120] = b2 := ⟨_, rfl⟩
    obtain ⟨b3, hb3⟩ : ∃ b3, keptC nm 2 [121] = b3 := ⟨_, rfl⟩
    have HK1 := Lib.hid hb1
    have HK2 := Lib.hid hb2
    have HK3 := Lib.hid hb3
    clear hn wp hb1 hb2 hb3
    have HNP := Lib.hid HI.out.nput
    have HNG := Lib.hid HI.out.nget
    have HNL := Lib.hid HI.out.nlen
    have hcv := fun (w : World) (C : Array Value) (n c : Nat) => Lib.run_convert_bytes_const (P := Try.prog) w 22 5 C n c Try.underlying22 Try.underlying5
    go_enter Try.func7, Try.ntmps7
    go_wp2_with (first | (go_at_call 10; (refine HN.out.mono ?_); rintro e w1 ⟨p, rfl, hd⟩; have HD := Lib.hid (caw_fresh HI.out hd 4 (by decide)); clear hd) | (go_at_call 9; (refine HD.out.mono ?_); rintro e w2 ⟨q, rfl, hc⟩; have HC := Lib.hid (show CaW Ca anyD 4 true 1 W w2 q p [] from hc); clear hc) | (at_make; refine wpList_make_bytes rfl _ _ 22 rfl 5 Try.underlying22 info_u8 _ _ n rfl rfl (by omega) ?_))
    intro w3 ho3 hx3
    have HP1 := Lib.hid (caw_putB HI.out HC.out (by omega) ⟨#[97]⟩ 1 _ (List.replicate n 0) hx3 (OwnB.read ho3) (fun j hj => (World.ownsRow.lt ho3 j hj).1) (by decide) (by decide) (by simp; omega) (.inl rfl))
    rw [HK1.out] at HP1
    clear ho3 hx3 HC HD HN
    go_upto_region 7 with (first | (go_at_call 14; (with_reducible refine HP1.out.mono ?_); rintro e w4 ⟨rfl, T4, hc4, hs4, ho4⟩; have HG4 := Lib.hid (caw_getB HI.out hc4 (by omega) ⟨#[97]⟩ 1 (by decide) (by decide) b1 hs4); have HO4 := Lib.hid ho4; clear hc4 hs4 ho4) | (go_at_call 11; (with_reducible refine HG4.out.mono ?_); rintro e w5 ⟨va5, m5, vc5, rfl, T5, hc5, ho5⟩; have HC5 := Lib.hid hc5; have HO5 := Lib.hid ho5; clear hc5 ho5))
    have HN5 : Hid (∀ x, x ≠ ((⟨#[97]⟩, 1) : CKey) → lookC T5 x = none) := Lib.hid fun x hx => HO5.out x (HO4.out x hx rfl)
    have HP5 := Lib.hid (caw_putB HI.out HC5.out (by omega) ⟨#[98]⟩ pc _ [120] ((Below.refl _ _).alloc (Nat.le_refl _) _) (x_read w5) (fun j hj => by cases hj; exact Nat.le_refl _) (by decide) HWP.out (by decide) (.inl (HN5.out _ (fun h => by have := congrArg (fun x : CKey => x.1.data) h; simp at this))))
    rw [HK2.out] at HP5
    go_upto_region 9 with (first | (go_at_call 14; (with_reducible refine HP5.out.mono ?_); rintro e w6 ⟨rfl, T6, hc6, hs6, ho6⟩; have HG6 := Lib.hid (caw_getB HI.out hc6 (by omega) ⟨#[98]⟩ pc (by decide) HWP.out b2 hs6); have HO6 := Lib.hid ho6; clear hc6 hs6 ho6) | (go_at_call 11; (with_reducible refine HG6.out.mono ?_); rintro e w7 ⟨va7, m7, vc7, rfl, T7, hc7, ho7⟩; have HC7 := Lib.hid hc7; have HO7 := Lib.hid ho7; clear hc7 ho7))
    have HN7 : Hid (lookC T7 (nm, 2) = none ∨ keptC nm 2 [121] = true) := Lib.hid (by
      by_cases hsz : nm.size = 1
      · exact .inr (by unfold keptC; simp [hsz])
      · have e1 : ((nm, 2) : CKey) ≠ (⟨#[97]⟩, 1) := fun h => hsz (by rw [(Prod.mk.inj h).1]; rfl)
        have e2 : ((nm, 2) : CKey) ≠ (⟨#[98]⟩, pc) := fun h => hsz (by rw [(Prod.mk.inj h).1]; rfl)
        exact .inl (HO7.out _ (HO6.out _ e2 (HN5.out _ e1))))
    have HP7 := Lib.hid (caw_putB HI.out HC7.out (by omega) nm 2 _ [121] ((Below.refl _ _).alloc (Nat.le_refl _) _) (y_read w7) (fun j hj => by cases hj; exact Nat.le_refl _) (by omega) (by decide) (by decide) HN7.out)
    rw [HK3.out] at HP7
    go_upto_region 14 with (first | (go_at_call 14; first | ((with_reducible refine HP7.out.mono ?_); rintro e w8 ⟨rfl, T8, hc8, hs8, ho8⟩; have HG8 := Lib.hid (caw_getB HI.out hc8 (by omega) nm 2 (by omega) (by decide) b3 hs8); clear hc8 hs8 ho8) | ((with_reducible refine (HNP.out _ _ _ _).mono ?_); rintro e w10 ⟨rfl, hb10⟩; have HB10 := Lib.hid (belowT HC9.out.below hb10); clear hb10)) | (go_at_call 11; first | ((with_reducible refine HG8.out.mono ?_); rintro e w9 ⟨va9, m9, vc9, rfl, T9, hc9, ho9⟩; have HC9 := Lib.hid hc9; clear hc9 ho9) | ((with_reducible refine (HNG.out _ _ _).mono ?_); rintro e w11 ⟨rfl, hb11⟩; have HB11 := Lib.hid (belowT HB10.out hb11); clear hb11)))
    have hA : (b1 = true ∧ (n : Int) ≤ 512) ∨ (b1 = false ∧ ¬ (n : Int) ≤ 512) := by
      rw [← HK1.out]
      unfold keptC
      by_cases h : n ≤ 512
      · exact .inl ⟨by simp [h]; decide, by omega⟩
      · exact .inr ⟨by simp; omega, by omega⟩
    have hB : (b2 = true ∧ 0 ≤ pc ∧ pc ≤ 1073741824) ∨ (b2 = false ∧ ¬ 0 ≤ pc) ∨ (b2 = false ∧ 0 ≤ pc ∧ ¬ pc ≤ 1073741824) := by
      rw [← HK2.out]
      unfold keptC
      by_cases h : 0 ≤ pc
      · by_cases h2 : pc ≤ 1073741824
        · exact .inl ⟨by simp [h, h2]; decide, h, h2⟩
        · exact .inr (.inr ⟨by simp [h2], h, h2⟩)
      · exact .inr (.inl ⟨by simp [h], h⟩)
    have hC : (b3 = true ∧ 1 ≤ (nm.size : Int) ∧ (nm.size : Int) ≤ 40) ∨ (b3 = false ∧ ¬ 1 ≤ (nm.size : Int)) ∨ (b3 = false ∧ 1 ≤ (nm.size : Int) ∧ ¬ (nm.size : Int) ≤ 40) := by
      rw [← HK3.out]
      unfold keptC
      by_cases h : 1 ≤ nm.size
      · by_cases h2 : nm.size ≤ 40
        · exact .inl ⟨by simp [h, h2], by omega, by omega⟩
        · exact .inr (.inr ⟨by simp [h2], by omega, by omega⟩)
      · exact .inr (.inl ⟨by simp [h], by omega⟩)
    generalize hsn : nm.size = sn at *
    clear HK1 HK2 HK3 HP1 HP5 HP7 HG4 HG6 HG8 HO4 HO5 HO6 HO7 HN5 HN7 c1 HWP HC5 HC7 HC9
    rcases hA with ⟨rfl, hA⟩ | ⟨rfl, hA⟩ <;> rcases hB with ⟨rfl, hB1, hB2⟩ | ⟨rfl, hB1⟩ | ⟨rfl, hB1, hB2⟩ <;> rcases hC with ⟨rfl, hC1, hC2⟩ | ⟨rfl, hC1⟩ | ⟨rfl, hC1, hC2⟩
    all_goals
      go_wp2_with fail
      with_reducible refine (HNL.out _).mono ?_
      rintro e w12 ⟨rfl, hb12⟩
      have HB12 := Lib.hid (belowT HB11.out hb12)
      clear hb12
      go_wp2_with (go_at_call 8; (refine (HAW.out _).mono ?_); rintro e w9 ⟨rfl, hb9⟩; have HB9 := Lib.hid hb9; clear hb9)
      go_ret
      exact ⟨rfl, belowT HB12.out HB9.out⟩
end Go.Proofs.Ytmlijnekidihbaa
