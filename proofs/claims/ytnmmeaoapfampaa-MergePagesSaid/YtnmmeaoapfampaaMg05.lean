import Derived.Test.YtnmmeaoapfampaaRegion
import Derived.Test.YtnmmeaoapfampaaKept
import Derived.Test.YtnmmeaoapfampaaCells
import Derived.Test.YtnmmeaoapfampaaOwnEnt
import Derived.Shelf.Abstract
import Derived.Test.YtnmmeaoapfampaaMg00
import Derived.Test.YtnmmeaoapfampaaMergeView
import Derived.Test.YtnmmeaoapfampaaStrLess
import Derived.Test.YtnmmeaoapfampaaShift
import Derived.Deep.Cut

/-
  sort.Search: of any question that a closure answers.
-/
namespace Go.Proofs.Ytnmmeaoapfampaa
open Go.RowKit

set_option maxRecDepth 100000 in
set_option maxHeartbeats 400000 in
theorem search_any (n : Nat) (hn : n ≤ 1000000000) (p : Nat → Bool) (k : Nat) (caps : Array Value) (hen : Enters Try.prog k) (w : World)
    (hf : ∀ (i : Nat) wz, i < n → Below w.heap.size w wz → Calls Try.prog k (#[.int .i64 (i : Int)] ++ caps) wz fun e w' => e = .returned (.bool (p i)) ∧ Below wz.heap.size wz w') :
    Calls Try.prog 43 #[.int .i64 (n : Int), .func (.func k) #[] caps] w fun e w' => ∃ m : Nat, m ≤ n ∧ e = .returned (.int .i64 (m : Int)) ∧ (0 < m → p (m - 1) = false) ∧ (m < n → p m = true) ∧ Below w.heap.size w w' := by
  have HF := Lib.hid hf
  unfold Enters at hen
  clear hf
  go_enter Try.func43, Try.ntmps43
  go_wp2
  go_loopw [5, 6] (fun x y wr => ∃ i j : Nat, i ≤ j ∧ j ≤ n ∧ x = .int .i64 (i : Int) ∧ y = .int .i64 (j : Int) ∧ Hid (0 < i → p (i - 1) = false) ∧ Hid (j < n → p j = true) ∧ Hid (Below w.heap.size w wr)) (fun x y _ => (intOf y).toNat - (intOf x).toNat)
  case atStart => exact ⟨0, n, Nat.zero_le _, Nat.le_refl _, rfl, rfl, Lib.hid (fun h => by omega), Lib.hid (fun h => by omega), Lib.hid (Below.refl _ _)⟩
  case round =>
    obtain ⟨i, j, hij, hjn, rfl, rfl, HI, HJ, HB⟩ := hrel
    by_cases hlt : i < j
    · obtain ⟨h, hh⟩ : ∃ h : Nat, h = (i + j) / 2 := ⟨_, rfl⟩
      have h1 : i ≤ h := by omega
      have h2 : h < j := by omega
      have hin : h < n := by omega
      have HFH := HF.out h wr hin HB.out
      rw [show (h : Int) = ((i : Int) + (j : Int)) / 2 by omega] at HFH
      replace HFH := Lib.hid HFH
      cases hp : p h with
      | false =>
        rw [hp] at HFH
        have HP := Lib.hid hp
        clear hp
        go_wp2_with (go_at_fn k; (refine HFH.out.mono ?_); rintro e w' ⟨rfl, hb⟩; have HBN := Lib.hid hb; clear hb)
        refine ⟨⟨h + 1, j, h2, hjn, by go_num, rfl, Lib.hid (fun _ => HP.out), HJ, Lib.hid (HB.out.trans (HBN.out.mono HB.out.size))⟩, by simp [intOf]; omega⟩
      | true =>
        rw [hp] at HFH
        have HP := Lib.hid hp
        clear hp
        go_wp2_with (go_at_fn k; (refine HFH.out.mono ?_); rintro e w' ⟨rfl, hb⟩; have HBN := Lib.hid hb; clear hb)
        refine ⟨⟨i, h, h1, by omega, rfl, congrArg (Value.int .i64) (by omega), HI, Lib.hid (fun _ => HP.out), Lib.hid (HB.out.trans (HBN.out.mono HB.out.size))⟩, by simp [intOf]; omega⟩
    · have : i = j := by omega
      subst this
      go_wp2
      go_ret
      exact ⟨i, hjn, rfl, HI.out, HJ.out, HB.out⟩
end Go.Proofs.Ytnmmeaoapfampaa

/-
  Package merge: how many entries are of users below one.
-/
namespace Go.Proofs.Ytnmmeaoapfampaa
open Go.RowKit

/-- Is a user not below one? -/
def notBelow (u x : ByteArray) : Bool := decide (0 ≤ cmpL x.data.toList u.data.toList)
theorem enters_below : Enters Try.prog 44 := enters_of Try.func44 (by kernel_rfl) rfl
theorem notBelow_eq (u x : ByteArray) : (!Op.bytesLess x.toList u.toList) = notBelow u x := by
  unfold notBelow
  by_cases hc : cmpL x.data.toList u.data.toList < 0
  · rw [less_yes hc, decide_eq_false (by omega)]; rfl
  · rw [less_no hc, decide_eq_true (by omega)]; rfl

set_option maxRecDepth 100000 in
set_option maxHeartbeats 400000 in
theorem notBelow_any {a : Option Addr} {c q1 q2 i : Nat} {l : List Ent} {u : ByteArray} {w : World} (hr : RdE w (.slice a l.length c) l) (h1 : w.heap[q1]? = some (.cells #[.slice a l.length c] 25 (0, 0))) (h2 : w.heap[q2]? = some (.cells #[.string u] 9 (0, 0))) (hi : i < l.length) :
    Calls Try.prog 44 #[.int .i64 (i : Int), .pointer (some ⟨q1, 0, none⟩), .pointer (some ⟨q2, 0, none⟩)] w fun e w' => e = .returned (.bool (notBelow u (l.getD i Ent.none_).u)) ∧ Below w.heap.size w w' := by
  obtain ⟨b, off, cap, hv, _, _, hb, hc⟩ := hr.at_ (by intro e; rw [e] at hi; simp at hi)
  cases hv
  obtain ⟨x0, _, _, _⟩ := hc i hi
  have c0 := fun z_ os => ((shift_below w z_ os).cell (p := ⟨b, off + i * 4, none⟩) hb).trans x0
  have d0 : ∀ z_ os, (shiftW w z_ os).cell? ⟨q1, 0, none⟩ = some (.slice (some ⟨b, off, none⟩) l.length c) := fun z_ os => ((shift_below w z_ os).cell (p := ⟨q1, 0, none⟩) (blk_lt h1)).trans (blk_cell (i := 0) h1)
  have e0 : ∀ z_ os, (shiftW w z_ os).cell? ⟨q2, 0, none⟩ = some (.string u) := fun z_ os => ((shift_below w z_ os).cell (p := ⟨q2, 0, none⟩) (blk_lt h2)).trans (blk_cell (i := 0) h2)
  have hiz : (i : Int) < (l.length : Int) := by omega
  clear hr h1 h2 hc x0 hb
  generalize (l.getD i Ent.none_).u = x at *
  generalize l.length = n at *
  go_enter Try.func44, Try.ntmps44
  go_wp2
  refine wp_region_shift (by kernel_rfl) (by kernel_rfl) ?_
  repeat (quiet_step (fail))
  refine wpQuiet_nil ?_
  intro _ hw'
  obtain ⟨⟨nq, osq⟩, hw''⟩ := hw'
  subst hw''
  have HBZ := Lib.hid (shift_below w nq osq)
  clear c0 d0 e0
  go_wp2
  go_ret
  exact ⟨by rw [notBelow_eq]; rfl, HBZ.out⟩

set_option maxRecDepth 100000 in
set_option maxHeartbeats 400000 in
theorem below_any {a : Option Addr} {c n : Nat} {l : List Ent} (u : ByteArray) {w : World} (hr : RdE w (.slice a n c) l) (hn : l.length = n) (hl : n ≤ 1000) :
    Calls Try.prog 36 #[.slice a n c, .string u] w fun e w' => ∃ m : Nat, m ≤ n ∧ e = .returned (.int .i64 (m : Int)) ∧ (0 < m → notBelow u (l.getD (m - 1) Ent.none_).u = false) ∧ (m < n → notBelow u (l.getD m Ent.none_).u = true) ∧ Below w.heap.size w w' := by
  obtain ⟨W, hW⟩ : ∃ W, W = (w.alloc (.cells #[.slice a n c] 25)).alloc (.cells #[.string u] 9) := ⟨_, rfl⟩
  have HB : Hid (Below w.heap.size w W) := Lib.hid (by rw [hW]; exact ((Below.refl _ _).alloc (Nat.le_refl _) _).alloc (by simp) _)
  have h1 : W.heap[w.heap.size]? = some (.cells #[.slice a n c] 25 (0, 0)) := by rw [hW, Below.heap_alloc _ _ _ (by simp)]; exact heap_alloc_new w _
  have h2 : W.heap[w.heap.size + 1]? = some (.cells #[.string u] 9 (0, 0)) := by rw [hW]; have := heap_alloc_new (w.alloc (.cells #[.slice a n c] 25)) (.cells #[.string u] 9); simpa using this
  have HS : Hid (Calls Try.prog 43 #[.int .i64 (n : Int), .func (.func 44) #[] #[.pointer (some ⟨w.heap.size, 0, none⟩), .pointer (some ⟨w.heap.size + 1, 0, none⟩)]] W fun e w' => ∃ m : Nat, m ≤ n ∧ e = .returned (.int .i64 (m : Int)) ∧ (0 < m → notBelow u (l.getD (m - 1) Ent.none_).u = false) ∧ (m < n → notBelow u (l.getD m Ent.none_).u = true) ∧ Below W.heap.size W w') := Lib.hid (search_any n (by omega) (fun i => notBelow u (l.getD i Ent.none_).u) _ _ enters_below W fun i wz hi hb => by
    subst hn
    exact notBelow_any ((hr.below HB.out (Nat.le_refl _)).below hb (Nat.le_refl _)) ((hb.block _ (blk_lt h1)).trans h1) ((hb.block _ (blk_lt h2)).trans h2) hi)
  have c0 : W.cell? ⟨w.heap.size, 0, none⟩ = some (.slice a n c) := blk_cell (i := 0) h1
  have HW := Lib.hid hW
  clear hr hn h1 h2 hW
  go_enter Try.func36, Try.ntmps36
  go_upto_region 1 with (fail)
  rw [← HW.out]
  go_wp2_with (go_at_call 43; (refine HS.out.mono ?_); rintro e w1 ⟨m, hm, rfl, h1, h2, hb⟩; have H1 := Lib.hid h1; have H2 := Lib.hid h2; have HB1 := Lib.hid (belowT HB.out hb); clear h1 h2 hb)
  go_ret
  exact ⟨m, hm, rfl, H1.out, H2.out, HB1.out⟩
end Go.Proofs.Ytnmmeaoapfampaa

/-
  Package merge: the entries of the users from one on and below another.
-/
namespace Go.Proofs.Ytnmmeaoapfampaa
open Go.RowKit

/-- Where the users from 'u' on begin. -/
structure Cut (l : List Ent) (u : ByteArray) (m : Nat) : Prop where
  le : m ≤ l.length
  ahead : 0 < m → notBelow u (l.getD (m - 1) Ent.none_).u = false
  at_ : m < l.length → notBelow u (l.getD m Ent.none_).u = true
theorem RdE.mid {w : World} {b off o' cap c' n' : Nat} {xs : List Ent} (h : RdE w (.slice (some ⟨b, off, none⟩) xs.length cap) xs) (f g : Nat) (hfg : f ≤ g) (hg : g ≤ xs.length) (ho : f < xs.length → o' = off + f * 4) (hc : c' = cap - f) (hn : n' = g - f) :
    RdE w (.slice (some ⟨b, o', none⟩) n' c') ((xs.drop f).take (g - f)) := by
  have h1 := h.from_ (o' := o') f (by omega) ho hc rfl
  have h2 := RdE.front (a := some ⟨b, o', none⟩) (cap := c') (xs := xs.drop f) (by rw [List.length_drop]; exact h1) (g - f) (by rw [List.length_drop]; omega)
  rw [hn]
  exact h2

/-- What is told of the entries of the users from 'lo' on and below 'hi'. -/
def WithinP (w : World) (l : List Ent) (lo hi : ByteArray) (r : Ending) (w' : World) : Prop := ∃ (x : Value) (f g e : Nat), r = .returned x ∧ RdE w' x ((l.drop f).take (g - f)) ∧ Cut l lo f ∧ (if hi.size = 0 then e = l.length else Cut l hi e) ∧ g = max f e ∧ Below w.heap.size w w'
theorem rd_few (w : World) (a : Option Addr) (c : Nat) (hc : c ≤ maxLen) (h0 : a = none → c = 0) : RdE w (.slice a 0 c) [] := ⟨⟨_, c, rfl, Nat.zero_le _, hc, rfl, .inl ⟨rfl, h0⟩⟩, fun _ h => by cases h⟩
theorem within_none {w w' : World} {l : List Ent} {lo hi : ByteArray} {a : Option Addr} {c f e : Nat} (hc : c ≤ maxLen) (h0 : a = none → c = 0) (h1 : Cut l lo f) (h2 : if hi.size = 0 then e = l.length else Cut l hi e) (h3 : e ≤ f) (h4 : Below w.heap.size w w') : WithinP w l lo hi (.returned (.slice a 0 c)) w' := by
  refine ⟨_, f, f, e, rfl, ?_, h1, h2, by omega, h4⟩
  rw [Nat.sub_self, List.take_zero]
  exact rd_few w' a c hc h0
theorem within_some {w w' : World} {l : List Ent} {lo hi : ByteArray} {b off c n f e : Nat} (hr : RdE w' (.slice (some ⟨b, off, none⟩) n c) l) (hn : l.length = n) (h1 : Cut l lo f) (h2 : if hi.size = 0 then e = l.length else Cut l hi e) (h3 : f < e) (h4 : Below w.heap.size w w') : WithinP w l lo hi (.returned (.slice (some ⟨b, off + f * 4, none⟩) (e - f) (c - f))) w' := by
  refine ⟨_, f, e, e, rfl, ?_, h1, h2, by omega, h4⟩
  subst hn
  refine hr.mid f e (by omega) ?_ (fun _ => rfl) rfl rfl
  split at h2
  · omega
  · exact h2.le

set_option maxRecDepth 100000 in
set_option maxHeartbeats 400000 in
theorem within_any {va : Option Addr} {c n : Nat} {l : List Ent} (lo hi : ByteArray) {w : World} (hr : RdE w (.slice va n c) l) (hn : l.length = n) (hl : n ≤ 1000) :
    Calls Try.prog 25 #[.slice va n c, .string lo, .string hi] w (WithinP w l lo hi) := by
  have hC : ∀ (u : ByteArray) wz, Below w.heap.size w wz → Calls Try.prog 36 #[.slice va n c, .string u] wz fun e w' => ∃ m : Nat, e = .returned (.int .i64 (m : Int)) ∧ Cut l u m ∧ Below w.heap.size w w' := fun u wz hz => (below_any u (hr.below hz (Nat.le_refl _)) hn hl).mono fun e w' ⟨m, h0, h1, h2, h3, h4⟩ => ⟨m, h1, ⟨by omega, h2, fun h => h3 (by omega)⟩, belowT hz h4⟩
  have hnc : n ≤ c ∧ c ≤ maxLen := by obtain ⟨_, _, hv, h1, h2⟩ := hr.form; cases hv; exact ⟨h1, h2⟩
  obtain ⟨hnc, hcm⟩ := hnc
  have HC := Lib.hid hC
  have HN := Lib.hid hn
  have HCM := Lib.hid hcm
  have HNO : Hid (va = none → c = 0 ∧ n = 0) := Lib.hid fun h => by
    subst h
    obtain ⟨_, _, hv, _, _, _, h3⟩ := hr.1
    cases hv
    rcases h3 with ⟨h3, h4⟩ | ⟨_, _, h4, _⟩
    · exact ⟨h4 rfl, h3⟩
    · cases h4
  have HFIN : Hid (∀ (f e : Nat) w', Cut l lo f → (if hi.size = 0 then e = l.length else Cut l hi e) → Below w.heap.size w w' →
      f ≤ n ∧ e ≤ n ∧ (e ≤ f → ∀ (a : Option Addr) (c' : Nat), (a = none → c' = 0) → c' ≤ c → WithinP w l lo hi (.returned (.slice a 0 c')) w') ∧
      (f < e → ∀ b o, va = some ⟨b, o, none⟩ → WithinP w l lo hi (.returned (.slice (some ⟨b, o + f * 4, none⟩) (e - f) (c - f))) w')) := Lib.hid fun f e w' h1 h2 h4 => by
    refine ⟨by have := h1.le; omega, ?_, fun h3 a c' h0 hc' => within_none (by omega) h0 h1 h2 h3 h4, fun h3 b o hv => ?_⟩
    · split at h2
      · omega
      · have := h2.le; omega
    · subst hv
      exact within_some (hr.below h4 (Nat.le_refl _)) hn h1 h2 h3 h4
  have HSO : Hid (0 < n → ∃ b o, va = some ⟨b, o, none⟩) := Lib.hid fun hp => by
    obtain ⟨_, _, hv, _, _, _, h3⟩ := hr.1
    cases hv
    rcases h3 with ⟨h3, _⟩ | ⟨b, o, h4, _⟩
    · omega
    · exact ⟨b, o, h4⟩
  clear hr hn hC hcm
  by_cases hhi : hi = ⟨#[]⟩
  · subst hhi
    generalize hi9 : (⟨#[]⟩ : ByteArray) = hi at HFIN ⊢
    subst hi9
    go_enter Try.func25, Try.ntmps25
    go_upto_region 4 with (go_at_call 36; (refine (HC.out _ _ (Below.refl _ _)).mono ?_); rintro e w1 ⟨f, rfl, hcut, hb1⟩; have HCF := Lib.hid hcut; have HBE := Lib.hid hb1; clear hcut hb1)
    have HCE : Hid (if (⟨#[]⟩ : ByteArray).size = 0 then n = l.length else Cut l ⟨#[]⟩ n) := Lib.hid (by have h : (⟨#[]⟩ : ByteArray).size = 0 := rfl; rw [if_pos h]; exact HN.out.symm)
    have HX := Lib.hid (HFIN.out f n _ HCF.out HCE.out HBE.out)
    obtain ⟨hfn, hen, _, _⟩ := HX.out
    rcases Nat.lt_or_ge f n with hfe | hfe
    · have hnp : 0 < n := by omega
      obtain ⟨b, o, rfl⟩ := HSO.out hnp
      have gfe : (f : Int) < (n : Int) := by omega
      have gfe2 : ¬ (n : Int) ≤ (f : Int) := by omega
      have gfe3 : (f : Int) ≤ (n : Int) := by omega
      have gmx : max (f : Int) (n : Int) = (n : Int) := by omega
      have hcf : ¬ c = f := by omega
      have hec : n ≤ c := by omega
      have hfc : f ≤ n := by omega
      go_wp2
      go_ret
      exact HX.out.2.2.2 hfe b o rfl
    · have gfe : ¬ (f : Int) < (n : Int) := by omega
      have gfe2 : (n : Int) ≤ (f : Int) := by omega
      have gmx : max (f : Int) (n : Int) = (f : Int) := by omega
      have hfc : f ≤ c := by omega
      cases va with
      | none =>
        obtain ⟨hc0, hn0⟩ := HNO.out rfl
        subst hc0 hn0
        obtain rfl : f = 0 := by omega
        go_wp2
        go_ret
        exact HX.out.2.2.1 (Nat.le_refl _) none 0 (fun _ => rfl) (Nat.zero_le _)
      | some ad =>
        by_cases hcf : c = f
        · have HXX : Hid (∀ a, WithinP w l lo ⟨#[]⟩ (.returned (.slice (some a) 0 0)) w1) := Lib.hid fun a => HX.out.2.2.1 hfe (some a) 0 (fun h => by cases h) (Nat.zero_le _)
          clear HX
          go_wp2
          go_ret
          exact HXX.out _
        · have HXX : Hid (∀ a, WithinP w l lo ⟨#[]⟩ (.returned (.slice (some a) 0 (c - f))) w1) := Lib.hid fun a => HX.out.2.2.1 hfe (some a) (c - f) (fun h => by cases h) (Nat.sub_le _ _)
          clear HX
          go_wp2
          go_ret
          exact HXX.out _
  · have hh := full_list hhi
    have hsz : ¬ hi.size = 0 := fun h => hhi (ByteArray.ext (Array.eq_empty_of_size_eq_zero h))
    have HSZ := Lib.hid hsz
    clear hhi hsz
    go_enter Try.func25, Try.ntmps25
    go_upto_region 4 with (go_at_call 36; first | ((with_reducible refine (HC.out _ _ HB1.out).mono ?_); rintro e w2 ⟨e, rfl, hcut, hb1⟩; have HCG := Lib.hid hcut; have HBE := Lib.hid hb1; clear hcut hb1) | ((refine (HC.out _ _ (Below.refl _ _)).mono ?_); rintro e w1 ⟨f, rfl, hcut, hb1⟩; have HCF := Lib.hid hcut; have HB1 := Lib.hid hb1; clear hcut hb1))
    have HCE : Hid (if hi.size = 0 then e = l.length else Cut l hi e) := Lib.hid (by rw [if_neg HSZ.out]; exact HCG.out)
    have HX := Lib.hid (HFIN.out f e _ HCF.out HCE.out HBE.out)
    obtain ⟨hfn, hen, _, _⟩ := HX.out
    rcases Nat.lt_or_ge f e with hfe | hfe
    · have hnp : 0 < n := by omega
      obtain ⟨b, o, rfl⟩ := HSO.out hnp
      have gfe : (f : Int) < (e : Int) := by omega
      have gfe2 : ¬ (e : Int) ≤ (f : Int) := by omega
      have gfe3 : (f : Int) ≤ (e : Int) := by omega
      have gmx : max (f : Int) (e : Int) = (e : Int) := by omega
      have hcf : ¬ c = f := by omega
      have hec : e ≤ c := by omega
      have hfc : f ≤ e := by omega
      go_wp2
      go_ret
      exact HX.out.2.2.2 hfe b o rfl
    · have gfe : ¬ (f : Int) < (e : Int) := by omega
      have gfe2 : (e : Int) ≤ (f : Int) := by omega
      have gmx : max (f : Int) (e : Int) = (f : Int) := by omega
      have hfc : f ≤ c := by omega
      cases va with
      | none =>
        obtain ⟨hc0, hn0⟩ := HNO.out rfl
        subst hc0 hn0
        obtain rfl : f = 0 := by omega
        obtain rfl : e = 0 := by omega
        go_wp2
        go_ret
        exact HX.out.2.2.1 (Nat.le_refl _) none 0 (fun _ => rfl) (Nat.zero_le _)
      | some ad =>
        by_cases hcf : c = f
        · have HXX : Hid (∀ a, WithinP w l lo hi (.returned (.slice (some a) 0 0)) w2) := Lib.hid fun a => HX.out.2.2.1 hfe (some a) 0 (fun h => by cases h) (Nat.zero_le _)
          clear HX
          go_wp2
          go_ret
          exact HXX.out _
        · have HXX : Hid (∀ a, WithinP w l lo hi (.returned (.slice (some a) 0 (c - f))) w2) := Lib.hid fun a => HX.out.2.2.1 hfe (some a) (c - f) (fun h => by cases h) (Nat.sub_le _ _)
          clear HX
          go_wp2
          go_ret
          exact HXX.out _
end Go.Proofs.Ytnmmeaoapfampaa
