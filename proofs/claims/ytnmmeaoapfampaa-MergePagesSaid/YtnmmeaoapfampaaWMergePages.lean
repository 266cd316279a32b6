/-
  The walk of MergePages.
-/
import Derived.Test.YtnmmeaoapfampaaMergeAwake
import Derived.Test.YtnmmeaoapfampaaMergeRView
import Derived.Test.YtnmmeaoapfampaaMergeRMerge
import Derived.Test.YtnmmeaoapfampaaAppKeep
namespace Go.Proofs.Ytnmmeaoapfampaa
open Go.RowKit

/-- From where the next page is told. -/
def atB (Wv : List (ByteArray × ByteArray)) (m : Nat) : ByteArray := if m = 0 then ⟨#[]⟩ else (Wv.getD (m - 1) noneP).1 ++ zeroB
theorem page_cut {L : List Ent} (hup : Up L) (seq : Int) {m : Nat} (hm : m ≤ (wholeV L seq).length) : allV L seq (atB (wholeV L seq) m) ⟨#[]⟩ = (wholeV L seq).drop m := by
  rw [all_cut]
  unfold atB
  by_cases h0 : m = 0
  · subst h0
    rw [if_pos rfl, cut_start, List.drop_zero]
  · rw [if_neg h0, cut_behind (whole_rise hup seq) (by omega) noneP]
    congr 1
    omega
theorem whole_key {L : List Ent} {seq : Int} {x : ByteArray × ByteArray} (h : x ∈ wholeV L seq) : ∃ e ∈ L, e.u = x.1 := by
  unfold wholeV pairsV at h
  obtain ⟨e, he, rfl⟩ := List.mem_map.1 h
  exact ⟨e, (rows_sub (Nat.le_refl _) (List.mem_filter.1 he).1).1, rfl⟩
theorem at_size {L : List Ent} {seq : Int} {B : Nat} (hb : ∀ e ∈ L, e.u.size ≤ B) (m : Nat) (hm : m ≤ (wholeV L seq).length) : (atB (wholeV L seq) m).size ≤ B + 1 := by
  unfold atB
  by_cases h0 : m = 0
  · rw [if_pos h0]; exact Nat.zero_le _
  · rw [if_neg h0, next_size]
    have hlt : m - 1 < (wholeV L seq).length := by omega
    have hx : (wholeV L seq).getD (m - 1) noneP ∈ wholeV L seq := by
      simp only [List.getD, List.getElem?_eq_getElem hlt, Option.getD_some]
      exact List.getElem_mem hlt
    obtain ⟨e, he, hu⟩ := whole_key hx
    rw [← hu]
    have := hb e he
    omega
theorem view_page {L : List Ent} (hup : Up L) (seq : Int) {m : Nat} (n : Nat) (hm : m ≤ (wholeV L seq).length) : viewV L seq (atB (wholeV L seq) m) ⟨#[]⟩ false (n : Int) = ((wholeV L seq).drop m).take n := by
  unfold viewV someV
  rw [page_cut hup seq hm]
  simp
theorem view_whole {L : List Ent} (seq : Int) (hl : L.length ≤ 1000) : viewV L seq ⟨#[]⟩ ⟨#[]⟩ false 1000 = wholeV L seq := by
  unfold viewV someV
  rw [all_cut, cut_start]
  have := whole_len L seq
  simp only [Bool.false_eq_true, if_false]
  exact List.take_of_length_le (by show (wholeV L seq).length ≤ 1000; omega)

set_option maxRecDepth 100000 in
set_option maxHeartbeats 1000000 in
theorem mergePages_walkC (HP : MergeC) (HA : ViewC) (v0 : Value) (ns : List UInt8) (a b : Int) (W : World) (w0 : RdB W v0 ns) (wa : (Lit.int .u8 a).wf = true) (wb : (Lit.int .u8 b).wf = true) :
    Calls Try.prog 9 #[v0, .int .u8 a, .int .u8 b] W fun r w' => r = .returned (.bool true) ∧ Below W.heap.size W w' := by
  have HAW := Lib.hid (awake15_any HP HA)
  have HV := Lib.hid HA
  obtain ⟨va, vc, rfl, hc1, hc2⟩ := w0.form
  unfold maxLen at hc2
  have ba := bounds_u8 wa
  have bb := bounds_u8 wb
  obtain ⟨sq, rfl⟩ : ∃ n : Nat, a = (n : Int) := ⟨a.toNat, by omega⟩
  obtain ⟨sz, rfl⟩ : ∃ n : Nat, b = (n : Int) := ⟨b.toNat, by omega⟩
  have HV0 := Lib.hid w0
  clear w0 HP HA wa wb
  by_cases c1 : 60 < ns.length
  · have d1 : decide ((60 : Int) < (ns.length : Int)) = true := by simp; omega
    have d1n : decide (60 < ns.length) = true := by simp; omega
    go_enter Try.func9, Try.ntmps9
    go_wp2_with (go_at_call 10; (refine (HAW.out _).mono ?_); rintro e w9 ⟨rfl, hb9⟩)
    go_ret
    exact ⟨rfl, hb9⟩
  have d1 : decide ((60 : Int) < (ns.length : Int)) = false := by simp; omega
  have d1n : decide (60 < ns.length) = false := by simp; omega
  have HMK := Lib.hid (make12_any _ ns 30 (by omega) W HV0.out (by omega))
  obtain ⟨c, hc⟩ : ∃ c, sz % 6 = c := ⟨_, rfl⟩
  have e1 : (sz : Int).tmod 6 = (c : Int) := by rw [Int.tmod_eq_emod_of_nonneg (by omega)]; omega
  have e2 : (sz : Int) % 6 = (c : Int) := by omega
  obtain ⟨n, hn⟩ : ∃ n, n = c + 1 := ⟨_, rfl⟩
  have e3 : (1 : Int) + (c : Int) = (n : Int) := by omega
  have hn1 : 1 ≤ n := by omega
  have hn6 : n ≤ 6 := by omega
  have hup := mkB_up ns 30
  have hsm := may_small (mkB_may ns 30) (by have := mkB_len ns 30; omega)
  have hus : ∀ e ∈ mkB ns 30, e.u.size ≤ 64 := fun e he => (may_kind (mkB_may ns 30 e he)).2.1
  have HFT := Lib.hid (mk_fits ns 30)
  have hLl := mkB_len ns 30
  have hl60 : (mkB ns 30).length ≤ 60 := by omega
  generalize mkB ns 30 = L at *
  have hWl := whole_len L (sq : Int)
  have HVP := Lib.hid (fun m => view_page hup (sq : Int) (m := m) n)
  have HAS := Lib.hid (fun m => at_size (seq := (sq : Int)) hus m)
  have HVA := Lib.hid (view_whole (L := L) (sq : Int) (by omega))
  have hkey : ∀ x ∈ wholeV L (sq : Int), x.1.size ≤ 64 := fun x hx => by
    obtain ⟨e, he, hu⟩ := whole_key hx
    rw [← hu]
    exact hus e he
  have HRV : Hid (∀ (v : Value) (w : World), RdE w v L → Calls Try.prog 18 #[v, .int .i64 (sq : Int), .string ⟨#[]⟩, .string ⟨#[]⟩, .bool false, .int .i64 1000] w fun e w' => ∃ x, e = .returned x ∧ OwnP w' w.heap.size x (wholeV L (sq : Int)) ∧ Below w.heap.size w w') := Lib.hid fun v w hv => by
    have h := rview_any v L (sq : Int) ⟨#[]⟩ ⟨#[]⟩ false 1000 w hv hup (by omega)
    rw [HVA.out] at h
    exact h
  generalize wholeV L (sq : Int) = Wv at *
  have HSM := Lib.hid hsm
  have HUP := Lib.hid hup
  have HES := Lib.hid (show (⟨#[]⟩ : ByteArray).size ≤ 1000 by decide)
  have HSQ := Lib.hid (show (Lit.int .i64 (sq : Int)).wf = true from WalkArith.wf_i64 (by omega))
  have HNW := Lib.hid (show (Lit.int .i64 (n : Int)).wf = true from WalkArith.wf_i64 (by omega))
  have HKE := Lib.hid hkey
  have HPA := Lib.hid (fun va vb w => rpairs_any va vb Wv w (by omega))
  clear hc hn hup hsm hus hkey c1
  go_enter Try.func9, Try.ntmps9
  go_wp2_with (go_at_call 19; (refine HMK.out.mono ?_); rintro e w1 ⟨x1, rfl, ho1, hb1⟩; obtain ⟨la, lc, rfl, hl1, hl2⟩ := ho1.form; have HR1 := Lib.hid (ho1.read HFT.out); have HB1 := Lib.hid hb1; clear ho1 hb1)
  go_loopw [9, 10, 11] (fun x9 x10 x11 wr => ∃ (m i : Nat) (aa : Option Addr) (ac : Nat) (z : ByteArray), x9 = .slice aa m ac ∧ x10 = .string z ∧ x11 = .int .i64 (i : Int) ∧ i ≤ m ∧ m ≤ Wv.length ∧ Hid (z = atB Wv m) ∧ Hid (Below w1.heap.size w1 wr) ∧ Hid (RdE wr (.slice la L.length lc) L) ∧ Hid (OwnP wr w1.heap.size (.slice aa m ac) (Wv.take m))) (fun _ _ i _ => L.length + 1 - (intOf i).toNat)
  case atStart => exact ⟨0, 0, none, 0, ⟨#[]⟩, rfl, rfl, rfl, Nat.le_refl _, Nat.zero_le _, Lib.hid rfl, Lib.hid (Below.refl _ _), HR1, Lib.hid (World.ownsRow_nil _ _ _ _)⟩
  case round =>
    obtain ⟨m, i, aa, ac, z, rfl, rfl, rfl, him, hmW, HZ, HB, HR, HO⟩ := hrel
    have hiz : (i : Int) ≤ (L.length : Int) := by omega
    have HZS := Lib.hid (show z.size ≤ 1000 by rw [HZ.out]; have := HAS.out m hmW; omega)
    by_cases hlt : m < Wv.length
    · obtain ⟨P, hP⟩ : ∃ P, P = (Wv.drop m).take n := ⟨_, rfl⟩
      have HVW := Lib.hid (show viewV L (sq : Int) z ⟨#[]⟩ false (n : Int) = P by rw [HZ.out, hP]; exact HVP.out m hmW)
      have hpl : P.length = min n (Wv.length - m) := by rw [hP, List.length_take, List.length_drop]
      have HAP := Lib.hid (show Wv.take m ++ P = Wv.take (m + P.length) by rw [hP, List.take_add]; congr 1; rw [List.length_take, List.length_drop]; simp [List.take_eq_take_iff])
      obtain ⟨q, hq⟩ : ∃ q, P.length = q + 1 := ⟨P.length - 1, by omega⟩
      have HLA := Lib.hid (show P.getD q noneP = Wv.getD (m + q) noneP by rw [hP]; simp [List.getD, List.getElem?_drop, show q < n by omega])
      have HQ := Lib.hid hq
      have hqz : (P.length : Int) = (q : Int) + 1 := by omega
      have hqW : m + q < Wv.length := by omega
      have HTL := Lib.hid (show (Wv.take m).length = m by rw [List.length_take]; omega)
      obtain ⟨K, hK⟩ : ∃ K, (P.getD q noneP).1 = K := ⟨_, rfl⟩
      have hK64 : K.size ≤ 64 := by
        rw [← hK, HLA.out]
        refine HKE.out _ ?_
        simp only [List.getD, List.getElem?_eq_getElem hqW, Option.getD_some]
        exact List.getElem_mem hqW
      have hlim : ¬ 9223372036854775807 < K.size + 1 := by omega
      have HK := Lib.hid hK
      have hqn : q < 6 := by omega
      clear hP hpl hq hqz hK
      go_wp2_with (first | (go_at_call 17; (refine (HV.out _ L (sq : Int) z ⟨#[]⟩ false (n : Int) _ HR.out HSM.out HUP.out HZS.out HES.out HSQ.out HNW.out).mono ?_); rintro e w3 ⟨x3, rfl, ho3, hb3⟩; rw [HVW.out] at ho3; obtain ⟨a3, c3, hx3, _, _⟩ := ho3.form; subst hx3; obtain ⟨g3, hg3, _, _, _⟩ := own_pair ho3 (k := q) (by rw [HQ.out]; omega); subst hg3; have HO3 := Lib.hid ho3; rw [HQ.out]; have HB3 := Lib.hid hb3; clear ho3 hb3) | (at_builtin; refine wpList_append_keep rfl (.tmp 38) (.tmp 39) 30 rfl w1.heap.size 42 2 32 (.agg #[.string ⟨#[]⟩, .string ⟨#[]⟩]) Try.underlying30 info_pair rfl (by decide) (.slice aa m ac) m (q + 1) c3 ((Wv.take m).flatMap cellsP) (P.flatMap cellsP) g3 0 rfl rfl ?own ?hlen ?hnews (pairFlat_one _) ?hB ?hl ?hl2 ?kk))
      case own =>
        have h := HO.out.below HB3.out
        unfold OwnP at h
        rw [HTL.out] at h
        exact h
      case hlen => rw [pflat_length, HQ.out]
      case hnews =>
        intro j u hj
        rw [Nat.zero_add, World.ownsRow.cellAt HO3.out j (by rw [← pflat_length]; exact (List.getElem?_eq_some_iff.1 hj).1)]
        exact hj
      case hB => exact Nat.le_trans HB.out.size HB3.out.size
      case hl => omega
      case hl2 => (unfold maxLen; omega)
      case kk =>
        intro v4 w4 hown hBk _ hgb
        have HB4 := Lib.hid (hBk w1.heap.size w1 (Nat.le_refl _) (HB.out.trans (HB3.out.mono HB.out.size)))
        obtain ⟨a4, c4, rfl, _, _⟩ := rd_of_own hown
        have HO4 : Hid (OwnP w4 w1.heap.size (.slice a4 (m + (q + 1)) c4) (Wv.take (m + (q + 1)))) := Lib.hid (by
          have h9 := HAP.out
          rw [HQ.out] at h9
          rw [← h9]
          unfold OwnP
          rw [List.flatMap_append, List.length_append, HTL.out, HQ.out]
          exact hown)
        have hp4 : OwnP w4 wr.heap.size (.slice (some ⟨g3, 0, none⟩) P.length c3) P := own_grown_f HO3.out hgb fun k hk => (World.ownsRow.lt HO.out k hk).2
        obtain ⟨g5, hg5, _, r0, _⟩ := own_pair hp4 (k := q) (by rw [HQ.out]; omega)
        cases hg5
        rw [HK.out] at r0
        clear hown hBk hgb hp4
        go_wp2
        refine ⟨⟨m + (q + 1), i + 1, a4, c4, _, by first | rfl | (congr 1), rfl, by go_num, by omega, by omega, Lib.hid ?_, HB4, Lib.hid (HR1.out.below HB4.out (Nat.le_refl _)), HO4⟩, by simp [intOf]; omega⟩
        unfold atB
        rw [if_neg (by omega), show m + (q + 1) - 1 = m + q by omega, ← HLA.out, HK.out]
        rfl
    · have hme : m = Wv.length := by omega
      have HVW := Lib.hid (show viewV L (sq : Int) z ⟨#[]⟩ false (n : Int) = [] by rw [HZ.out]; exact (HVP.out m hmW).trans (by rw [hme, List.drop_length, List.take_nil]))
      have HALL := Lib.hid (show Wv.take m = Wv by rw [hme, List.take_length])
      clear hme
      go_wp2_with (first | (go_at_call 17; (refine (HV.out _ L (sq : Int) z ⟨#[]⟩ false (n : Int) _ HR.out HSM.out HUP.out HZS.out HES.out HSQ.out HNW.out).mono ?_); rintro e w3 ⟨x3, rfl, ho3, hb3⟩; rw [HVW.out] at ho3; obtain ⟨a3, c3, rfl, _, _⟩ := ho3.form; have HO3 := Lib.hid ho3; have HB3 := Lib.hid hb3; clear ho3 hb3) | (go_at_call 18; (refine (HRV.out _ _ (HR.out.below HB3.out (Nat.le_refl _))).mono ?_); rintro e w5 ⟨x5, rfl, ho5, hb5⟩; have HO5 := Lib.hid ho5; have HB5 := Lib.hid hb5; clear ho5 hb5) | (go_at_call 16; have h9 := own_monoP ((HO.out.below HB3.out).below HB5.out) (Nat.zero_le _); rw [HALL.out] at h9; (refine (HPA.out _ _ _ h9 (own_monoP HO5.out (Nat.zero_le _))).mono ?_); rintro e w6 ⟨rfl, hb6⟩; have HB6 := Lib.hid hb6; clear hb6 h9) | (go_at_call 10; (refine (HAW.out _).mono ?_); rintro e w9 ⟨rfl, hb9⟩))
      go_ret
      exact ⟨rfl, belowT HB1.out (HB.out.trans ((belowT (belowT (belowT HB3.out HB5.out) HB6.out) hb9).mono HB.out.size))⟩
end Go.Proofs.Ytnmmeaoapfampaa
