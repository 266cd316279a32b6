import Derived.Test.YteeikmpfgbfeoaaMg10
import Derived.Deep.Cut
import Derived.Test.YteeikmpfgbfeoaaMg08
import Derived.Test.YteeikmpfgbfeoaaBase
import Derived.Test.YteeikmpfgbfeoaaRows
import Derived.ProofKit
import Derived.OpenShut
import Derived.ShutString
import Derived.ChangeOld

/-
  The walk of TableGreat.
-/
namespace Go.Proofs.Yteeikmpfgbfeoaa
open Go.RowKit

def greatN (i : Nat) : Ent := ⟨⟨#[117]⟩, 1000 - (i : Int), 1, ⟨#[]⟩⟩
def greatE (k : Nat) : List Ent := (List.range k).map greatN
theorem greatE_len (k : Nat) : (greatE k).length = k := by unfold greatE; simp
theorem greatE_succ (k : Nat) : greatE (k + 1) = greatE k ++ [greatN k] := by unfold greatE; rw [List.range_succ, List.map_append]; rfl
theorem greatN_may {i : Nat} (h : i ≤ 1000) : (greatN i).may = true := by
  unfold greatN Ent.may mayE
  rw [mayB_mk (by show ([117] : List UInt8).length ≤ 64; decide) (by simp only; omega) (by simp only; omega) (.inl rfl)]
  rfl
theorem greatN_cmp (i j : Nat) (h : i < j) : (greatN i).cmp (greatN j) = -1 := by
  unfold Ent.cmp greatN cmpK
  simp only
  have h1 : cmpL [117] [117] = 0 := (cmpL_zero _ _).2 rfl
  show lex (cmpL [117] [117]) (lex (cmpZ (1000 - (j : Int)) (1000 - (i : Int))) (cmpZ 1 1)) = -1
  have h2 : cmpZ (1000 - (j : Int)) (1000 - (i : Int)) = -1 := by unfold cmpZ; rw [if_pos (by omega)]
  rw [h1, h2]
  rfl
theorem greatE_may {k : Nat} (h : k ≤ 1000) : ∀ e ∈ greatE k, e.may = true := by
  intro e he
  unfold greatE at he
  obtain ⟨i, hi, rfl⟩ := List.mem_map.1 he
  exact greatN_may (by have := List.mem_range.1 hi; omega)
theorem greatE_up (k : Nat) : Up (greatE k) := by
  unfold Up
  rw [List.pairwise_iff_getElem]
  intro i j hi hj hij
  rw [greatE_len] at hi hj
  have e1 : (greatE k)[i]'(by rw [greatE_len]; exact hi) = greatN i := by simp [greatE]
  have e2 : (greatE k)[j]'(by rw [greatE_len]; exact hj) = greatN j := by simp [greatE]
  rw [e1, e2, greatN_cmp i j hij]
  omega

set_option maxRecDepth 100000 in
set_option maxHeartbeats 600000 in
theorem tableGreat_walkC (HP : PutTC) (HA : AllTC) (a0 per : Int) (W : World) (wa0 : (Lit.int .u16 a0).wf = true) (wa1 : (Lit.int .i64 per).wf = true) :
    Calls Try.prog 5 #[.int .u16 a0, .int .i64 per] W fun r w' => r = .returned (.bool true) ∧ Below W.heap.size W w' := by
  have HAW := Lib.hid (awake13_any HP HA)
  have n0 : 0 ≤ a0 ∧ a0 ≤ 65535 := by
    simp only [Lit.wf, IntKind.min, IntKind.max, IntKind.signed, IntKind.bits] at wa0
    simpa using wa0
  obtain ⟨n, rfl⟩ : ∃ n : Nat, a0 = (n : Int) := ⟨a0.toNat, by omega⟩
  have HWP := Lib.hid wa1
  clear wa0 wa1
  obtain ⟨r, hr⟩ : ∃ r, n % 400 = r := ⟨_, rfl⟩
  have m1 : (n : Int).tmod 400 = (r : Int) := by rw [Int.tmod_eq_emod_of_nonneg (by omega)]; omega
  have m2 : (n : Int) % 400 = (r : Int) := by omega
  have hr2 : r < 400 := by omega
  clear hr
  go_enter Try.func5, Try.ntmps5
  go_wp2
  go_loopw [6, 7] (fun l i wr => ∃ j : Nat, j ≤ r ∧ i = .int .i64 (j : Int) ∧ Hid (OwnE wr W.heap.size l (greatE j)) ∧ Hid (Below W.heap.size W wr)) (fun _ i _ => r - (intOf i).toNat)
  case atStart => exact ⟨0, Nat.zero_le _, rfl, Lib.hid (World.ownsRow_nil _ _ _ _), Lib.hid (Below.refl _ _)⟩
  case round =>
    obtain ⟨i, hi, rfl, HO, HB⟩ := hrel
    by_cases hlt : i < r
    · have hlt' : (i : Int) < (r : Int) := by omega
      have HOR := Lib.hid (show wr.ownsRow W.heap.size 34 4 _ i ((greatE i).flatMap Ent.cells) from by have h := HO.out; unfold OwnE at h; rw [greatE_len] at h; exact h)
      go_wp2_with (at_builtin; refine wpList_append_rd rfl (.tmp 20) (.tmp 25) 25 rfl W.heap.size 34 4 48 (.agg #[.string ⟨#[]⟩, .int .i64 0, .int .i64 0, .string ⟨#[]⟩]) Try.underlying25 info_ent rfl (by decide) _ (.slice (some ⟨wr.heap.size, 0, none⟩) 1 1) i 1 ((greatE i).flatMap Ent.cells) ([greatN i].flatMap Ent.cells) rfl rfl (World.ownsRow.alloc HOR.out _) (one_entry wr (greatN i)) (entFlat_one _) ?bA ?l1 ?l2 ?kk)
      case bA => exact Nat.le_trans HB.out.size (by simp)
      case l1 => omega
      case l2 => unfold maxLen; omega
      case kk =>
        intro v' w' hown' hb'
        go_wp2
        refine ⟨⟨i + 1, by omega, by go_num, Lib.hid ?_, Lib.hid (hb' _ _ (Nat.le_refl _) (HB.out.alloc HB.out.size _))⟩, by simp [intOf]; omega⟩
        unfold OwnE
        rw [greatE_len, greatE_succ]
        simpa using hown'
    · have hlt' : ¬ (i : Int) < (r : Int) := by omega
      obtain ⟨la, lc, hla, hlc1, hlc2⟩ := HO.out.form
      rw [greatE_len] at hla
      obtain rfl : r = i := by omega
      subst hla
      have HMY := Lib.hid (greatE_may (k := r) (by omega))
      have HSM := Lib.hid (may_small HMY.out (by rw [greatE_len]; omega))
      have HFT := Lib.hid (show ∀ e ∈ greatE r, e.fits from fun e he => Ent.may_fits (HMY.out e he))
      have HRI := Lib.hid (rising_up (greatE_up r) HMY.out)
      have HPT := Lib.hid (HP (.slice la r lc) (greatE r) per 4617315517961601024 wr (HO.out.read HFT.out) HSM.out HWP.out (by kernel_rfl))
      clear hlt
      by_cases hp1 : per < 1
      · have k1 : decide (per < 1) = true := by simpa using hp1
        have HWH : Hid (per < 1 ∨ 64 < per ∨ risingB (greatE r) = false ∨ greatE r = []) := Lib.hid (.inl hp1)
        have HER := Lib.hid (show putTErr (greatE r) per = 1 by unfold putTErr; rw [if_pos HWH.out])
        have HPA : Hid (Calls Try.prog 13 #[.slice la r lc, .int .i64 per, .float .f64 4617315517961601024] wr fun e w' => ∃ a c, e = .returned (.tuple #[.slice a 0 c, .int .i64 1]) ∧ OwnB w' wr.heap.size 5 (.slice a 0 c) [] ∧ Below wr.heap.size wr w') := Lib.hid (by
          refine HPT.out.mono ?_
          rintro e w' ⟨x, rfl, ho, hb⟩
          rw [HER.out, if_neg (by omega)] at ho
          obtain ⟨a, c, rfl, _, _⟩ := ho.read.form
          exact ⟨a, c, by rw [HER.out]; rfl, ho, hb⟩)
        go_wp2_with (first | (go_at_call 13; (refine HPA.out.mono ?_); rintro e w2 ⟨a2, c2, rfl, ho2, hb2⟩; have HO2 := Lib.hid ho2; have HB2 := Lib.hid (HB.out.trans (hb2.mono HB.out.size)); clear hb2 ho2) | (go_at_call 14; (refine (HAL.out _ _ HO2.out.read).mono ?_); rintro e w3 ⟨a3, c3, rfl, hb3⟩; have HB3 := Lib.hid (HB2.out.trans (hb3.mono HB2.out.size)); clear hb3) | (go_at_call 7; (refine (HAW.out _).mono ?_); rintro e w9 ⟨rfl, hb9⟩) | (go_at_call 16; (refine (num12_any _ _).mono ?_); rintro e w10 ⟨rfl, rfl⟩))
        go_ret
        exact ⟨rfl, HB2.out.trans (hb9.mono HB2.out.size)⟩
      · have k1 : decide (per < 1) = false := by simpa using hp1
        by_cases hp2 : 64 < per
        · have k2 : decide (64 < per) = true := by simpa using hp2
          have HWH : Hid (per < 1 ∨ 64 < per ∨ risingB (greatE r) = false ∨ greatE r = []) := Lib.hid (.inr (.inl hp2))
          have HER := Lib.hid (show putTErr (greatE r) per = 1 by unfold putTErr; rw [if_pos HWH.out])
          have HPA : Hid (Calls Try.prog 13 #[.slice la r lc, .int .i64 per, .float .f64 4617315517961601024] wr fun e w' => ∃ a c, e = .returned (.tuple #[.slice a 0 c, .int .i64 1]) ∧ OwnB w' wr.heap.size 5 (.slice a 0 c) [] ∧ Below wr.heap.size wr w') := Lib.hid (by
            refine HPT.out.mono ?_
            rintro e w' ⟨x, rfl, ho, hb⟩
            rw [HER.out, if_neg (by omega)] at ho
            obtain ⟨a, c, rfl, _, _⟩ := ho.read.form
            exact ⟨a, c, by rw [HER.out]; rfl, ho, hb⟩)
          go_wp2_with (first | (go_at_call 13; (refine HPA.out.mono ?_); rintro e w2 ⟨a2, c2, rfl, ho2, hb2⟩; have HO2 := Lib.hid ho2; have HB2 := Lib.hid (HB.out.trans (hb2.mono HB.out.size)); clear hb2 ho2) | (go_at_call 14; (refine (HAL.out _ _ HO2.out.read).mono ?_); rintro e w3 ⟨a3, c3, rfl, hb3⟩; have HB3 := Lib.hid (HB2.out.trans (hb3.mono HB2.out.size)); clear hb3) | (go_at_call 7; (refine (HAW.out _).mono ?_); rintro e w9 ⟨rfl, hb9⟩) | (go_at_call 16; (refine (num12_any _ _).mono ?_); rintro e w10 ⟨rfl, rfl⟩))
          go_ret
          exact ⟨rfl, HB2.out.trans (hb9.mono HB2.out.size)⟩
        · have k2 : decide (64 < per) = false := by simpa using hp2
          by_cases hr0 : r = 0
          · subst hr0
            have HWH : Hid (per < 1 ∨ 64 < per ∨ risingB (greatE 0) = false ∨ greatE 0 = []) := Lib.hid (.inr (.inr (.inr rfl)))
            have HER := Lib.hid (show putTErr (greatE 0) per = 1 by unfold putTErr; rw [if_pos HWH.out])
            have HPA : Hid (Calls Try.prog 13 #[.slice la 0 lc, .int .i64 per, .float .f64 4617315517961601024] wr fun e w' => ∃ a c, e = .returned (.tuple #[.slice a 0 c, .int .i64 1]) ∧ OwnB w' wr.heap.size 5 (.slice a 0 c) [] ∧ Below wr.heap.size wr w') := Lib.hid (by
              refine HPT.out.mono ?_
              rintro e w' ⟨x, rfl, ho, hb⟩
              rw [HER.out, if_neg (by omega)] at ho
              obtain ⟨a, c, rfl, _, _⟩ := ho.read.form
              exact ⟨a, c, by rw [HER.out]; rfl, ho, hb⟩)
            go_wp2_with (first | (go_at_call 13; (refine HPA.out.mono ?_); rintro e w2 ⟨a2, c2, rfl, ho2, hb2⟩; have HO2 := Lib.hid ho2; have HB2 := Lib.hid (HB.out.trans (hb2.mono HB.out.size)); clear hb2 ho2) | (go_at_call 14; (refine (HAL.out _ _ HO2.out.read).mono ?_); rintro e w3 ⟨a3, c3, rfl, hb3⟩; have HB3 := Lib.hid (HB2.out.trans (hb3.mono HB2.out.size)); clear hb3) | (go_at_call 7; (refine (HAW.out _).mono ?_); rintro e w9 ⟨rfl, hb9⟩) | (go_at_call 16; (refine (num12_any _ _).mono ?_); rintro e w10 ⟨rfl, rfl⟩))
            go_ret
            exact ⟨rfl, HB2.out.trans (hb9.mono HB2.out.size)⟩
          · have k3 : ((r : Int) == 0) = false := by
              have : (r : Int) ≠ 0 := by omega
              simpa using this
            have k3n : (r == 0) = false := by simpa using hr0
            have HNW : Hid (¬ (per < 1 ∨ 64 < per ∨ risingB (greatE r) = false ∨ greatE r = [])) := Lib.hid (by
              rintro (h | h | h | h)
              · exact hp1 h
              · exact hp2 h
              · rw [HRI.out] at h; cases h
              · have := congrArg List.length h
                rw [greatE_len] at this
                exact hr0 this)
            by_cases h256 : 256 < r
            · have k4 : decide ((256 : Int) < (r : Int)) = true := by simp; omega
              have k4n : decide (256 < r) = true := by simp; omega
              have HW4 := Lib.hid (show putTErr (greatE r) per = 4 by unfold putTErr; rw [if_neg HNW.out, if_pos (by rw [greatE_len]; exact h256)])
              have HER := Lib.hid (show putTErr (greatE r) per = 4 by exact HW4.out)
              have HPA : Hid (Calls Try.prog 13 #[.slice la r lc, .int .i64 per, .float .f64 4617315517961601024] wr fun e w' => ∃ a c, e = .returned (.tuple #[.slice a 0 c, .int .i64 4]) ∧ OwnB w' wr.heap.size 5 (.slice a 0 c) [] ∧ Below wr.heap.size wr w') := Lib.hid (by
                refine HPT.out.mono ?_
                rintro e w' ⟨x, rfl, ho, hb⟩
                rw [HER.out, if_neg (by omega)] at ho
                obtain ⟨a, c, rfl, _, _⟩ := ho.read.form
                exact ⟨a, c, by rw [HER.out]; rfl, ho, hb⟩)
              go_wp2_with (first | (go_at_call 13; (refine HPA.out.mono ?_); rintro e w2 ⟨a2, c2, rfl, ho2, hb2⟩; have HO2 := Lib.hid ho2; have HB2 := Lib.hid (HB.out.trans (hb2.mono HB.out.size)); clear hb2 ho2) | (go_at_call 14; (refine (HAL.out _ _ HO2.out.read).mono ?_); rintro e w3 ⟨a3, c3, rfl, hb3⟩; have HB3 := Lib.hid (HB2.out.trans (hb3.mono HB2.out.size)); clear hb3) | (go_at_call 7; (refine (HAW.out _).mono ?_); rintro e w9 ⟨rfl, hb9⟩) | (go_at_call 16; (refine (num12_any _ _).mono ?_); rintro e w10 ⟨rfl, rfl⟩))
              go_ret
              exact ⟨rfl, HB2.out.trans (hb9.mono HB2.out.size)⟩
            · have k4 : decide ((256 : Int) < (r : Int)) = false := by simp; omega
              have k4n : decide (256 < r) = false := by simp; omega
              have HW0 := Lib.hid (show putTErr (greatE r) per = 0 by unfold putTErr; rw [if_neg HNW.out, if_neg (by rw [greatE_len]; exact h256)])
              obtain ⟨hm, t1, t2⟩ := putT_ok HW0.out
              have hf := makeF_few (greatE r) 4617315517961601024 (by rw [greatE_len]; omega)
              have hts := table_small hm t1 t2 hf
              have he1 := errT_put hm t1 t2 hf
              have he2 := entsT_put hm t1 t2 hf
              obtain ⟨T, hT⟩ : ∃ T, tableL (greatE r) per.toNat (makeL (hashes (usersL (greatE r))) 4617315517961601024) = T := ⟨_, rfl⟩
              rw [hT] at hts he1 he2
              have HPA : Hid (Calls Try.prog 13 #[.slice la r lc, .int .i64 per, .float .f64 4617315517961601024] wr fun e w' => ∃ a c, e = .returned (.tuple #[.slice a T.length c, .int .i64 0]) ∧ OwnB w' wr.heap.size 5 (.slice a T.length c) T ∧ Below wr.heap.size wr w') := Lib.hid (by
                refine HPT.out.mono ?_
                rintro e w' ⟨x, rfl, ho, hb⟩
                rw [HW0.out, if_pos rfl, hT] at ho
                obtain ⟨a, c, rfl, _, _⟩ := ho.read.form
                exact ⟨a, c, by rw [HW0.out], ho, hb⟩)
              have HAL : Hid (∀ v w, RdB w v T → Calls Try.prog 14 #[v] w fun e w' => ∃ a c, e = .returned (.tuple #[.slice a r c, .int .i64 0]) ∧ Below w.heap.size w w') := Lib.hid fun v w hv => by
                refine (HA v T w hv hts.2).mono ?_
                rintro e w' ⟨x, rfl, ho, hb⟩
                rw [he2] at ho
                obtain ⟨a, c, rfl, _, _⟩ := ho.form
                exact ⟨a, c, by rw [he1, greatE_len], hb⟩
              clear hm t1 t2 hf hts he1 he2 hT
              go_wp2_with (first | (go_at_call 13; (refine HPA.out.mono ?_); rintro e w2 ⟨a2, c2, rfl, ho2, hb2⟩; have HO2 := Lib.hid ho2; have HB2 := Lib.hid (HB.out.trans (hb2.mono HB.out.size)); clear hb2 ho2) | (go_at_call 14; (refine (HAL.out _ _ HO2.out.read).mono ?_); rintro e w3 ⟨a3, c3, rfl, hb3⟩; have HB3 := Lib.hid (HB2.out.trans (hb3.mono HB2.out.size)); clear hb3) | (go_at_call 7; (refine (HAW.out _).mono ?_); rintro e w9 ⟨rfl, hb9⟩) | (go_at_call 16; (refine (num12_any _ _).mono ?_); rintro e w10 ⟨rfl, rfl⟩))
              go_ret
              exact ⟨rfl, HB3.out.trans (hb9.mono HB3.out.size)⟩
end Go.Proofs.Yteeikmpfgbfeoaa

/-
  The walk of TableGreat, on what is landed.
-/
namespace Go.Proofs.Yteeikmpfgbfeoaa
open Go.RowKit

theorem tableGreat_walk (a0 per : Int) (W : World) (wa0 : (Lit.int .u16 a0).wf = true) (wa1 : (Lit.int .i64 per).wf = true) :
    Calls Try.prog 5 #[.int .u16 a0, .int .i64 per] W fun r w' => r = .returned (.bool true) ∧ Below W.heap.size W w' :=
  tableGreat_walkC puttab_any all_any a0 per W wa0 wa1
end Go.Proofs.Yteeikmpfgbfeoaa

/-
  How arguments are opened: a slice of bytes that came in reads as a list of bytes; a slice of integers as a list of integers.
-/
namespace Go.Proofs.Yteeikmpfgbfeoaa
open Go.ChangeShapes Go.WideShapes Go.ChangeAt Go.RowKit

/-- The slice 'v' reads as the integers 'zs' (each of them fits the kind 'k') in world 'w'. -/
def RdI (k : IntKind) (w : World) (v : Value) (zs : List Int) : Prop :=
  ∃ a cap, v = .slice a zs.length cap ∧ zs.length ≤ cap ∧ cap ≤ maxLen ∧ (∀ n ∈ zs, (Lit.int k n).wf = true) ∧
    ((zs = [] ∧ (a = none → cap = 0)) ∨ ∃ b off, a = some ⟨b, off, none⟩ ∧ b < w.heap.size ∧ ∀ i, i < zs.length → w.cell? ⟨b, off + i, none⟩ = some (.int k (zs.getD i 0)))

theorem rdI_open {H : Type} {enc : TypeId × Value → H} {P : Program} {w : World} {k : IntKind} {t e : TypeId} {base : Nat} {m : Nat} {spare : Nat → Bool} {held : Bool} {v : Value} {d : DataW H} {p : List MemPlace} (ht : P.underlying t = some (.slice e)) (he : P.underlying e = some (.int k)) (hc : P.cellsOf e = 1)
    (hok : Value.okWide P w .any base t v) (hd : DataW.Trod enc P w m spare held t v d p) : ∃ zs, RdI k w v zs := by
  obtain ⟨a, len, cap, rfl⟩ := okWide_slice ht hok
  obtain ⟨fuel, hf⟩ := hd
  rcases open_ints ht he hc hf with ⟨hcs, _⟩ | ⟨x, l, c, zs, hcs, _, hl, hm, hz, _, hcell, hwz⟩
  · simp [Value.cells] at hcs
    obtain ⟨rfl, rfl, rfl⟩ := hcs
    exact ⟨[], none, 0, rfl, Nat.le_refl _, Nat.zero_le _, by simp, .inl ⟨rfl, fun _ => rfl⟩⟩
  · simp [Value.cells] at hcs
    obtain ⟨rfl, rfl, rfl⟩ := hcs
    have hz' : len ≤ zs.length := by rw [hz]; split <;> omega
    have hlen : (zs.take len).length = len := by rw [List.length_take]; omega
    refine ⟨zs.take len, some x, cap, by rw [hlen], by rw [hlen]; exact hl, hm, fun n hn => hwz n (List.mem_of_mem_take hn), ?_⟩
    by_cases h0 : len = 0
    · left; subst h0; exact ⟨rfl, fun h => by cases h⟩
    · right
      obtain ⟨b, off, spot⟩ := x
      have hc0 := hcell 0 (by omega)
      have hspot : spot = none := by simpa [Addr.add] using World.cell?_spot hc0
      subst hspot
      refine ⟨b, off, rfl, World.block_lt_of_cell? w _ hc0, fun i hi => ?_⟩
      have hi' : i < len := by omega
      have h1 := hcell i (by omega)
      have hadd : (⟨b, off, none⟩ : Addr).add i = ⟨b, off + i, none⟩ := by unfold Addr.add; split <;> simp_all
      rw [hadd] at h1
      rw [h1]
      simp [List.getD, hi']

theorem RdI.bytes {w : World} {v : Value} {zs : List Int} (h : RdI .u8 w v zs) : ∃ l, RdB w v l := by
  obtain ⟨a, cap, rfl, h1, h2, h3, h4⟩ := h
  have key : ∀ (zs : List Int), (∀ n ∈ zs, (Lit.int .u8 n).wf = true) → ∃ l : List UInt8, l.map (fun c => (c.toNat : Int)) = zs := by
    intro zs
    induction zs with
    | nil => exact fun _ => ⟨[], rfl⟩
    | cons z zs ih =>
      intro h
      obtain ⟨l, hl⟩ := ih fun n hn => h n (List.mem_cons_of_mem _ hn)
      have hz := bounds_u8 (h z (List.mem_cons_self ..))
      refine ⟨UInt8.ofNat z.toNat :: l, ?_⟩
      rw [List.map_cons, hl, UInt8.toNat_ofNat', Nat.mod_eq_of_lt (by omega)]
      congr 1
      omega
  obtain ⟨l, rfl⟩ := key zs h3
  simp only [List.length_map] at h1 h4 ⊢
  refine ⟨l, a, cap, rfl, h1, h2, by simp, ?_⟩
  rcases h4 with ⟨h4, h5⟩ | ⟨b, off, rfl, h5, h6⟩
  · left; exact ⟨by simpa using h4, h5⟩
  · refine .inr ⟨b, off, rfl, h5, fun j u hj => ?_⟩
    have hj' : j < l.length := by
      rcases Nat.lt_or_ge j l.length with h | h
      · exact h
      · simp [List.getElem?_eq_none h] at hj
    rw [h6 j hj']
    simp [hj'] at hj
    simp [List.getD, hj', hj]

theorem rdB_open {H : Type} {enc : TypeId × Value → H} {P : Program} {w : World} {t e : TypeId} {base : Nat} {m : Nat} {spare : Nat → Bool} {held : Bool} {v : Value} {d : DataW H} {p : List MemPlace} (ht : P.underlying t = some (.slice e)) (he : P.underlying e = some (.int .u8)) (hc : P.cellsOf e = 1)
    (hok : Value.okWide P w .any base t v) (hd : DataW.Trod enc P w m spare held t v d p) : ∃ l, RdB w v l :=
  let ⟨_, h⟩ := rdI_open ht he hc hok hd
  h.bytes
end Go.Proofs.Yteeikmpfgbfeoaa
