import Derived.Shelf.Strconv.Clone
import Derived.Ground.NamesProg
import Derived.Test.YtmlijnekidihbaaProg
import Derived.Test.YtmlijnekidihbaaMg09
import Derived.Test.YtmlijnekidihbaaMg10

/-
  Contracts of the library, laid at this program.
-/
namespace Go.Proofs.Ytmlijnekidihbaa
open Go.Shelf
def Try.sclL_ren : Go.Shelf.Ren := ⟨fun | 316 => 57 | n => n, fun | 9 => 9 | 3 => 3 | 4 => 4 | 37 => 22 | 0 => 0 | 127 => 113 | 5 => 5 | n => n, fun | n => n⟩
theorem Try.sclL : Go.Proofs.LaysM.n316 Try.prog Try.sclL_ren := {
  mixed := by kernel_rfl
  f316 := Try.func57.trans (congrArg some (by kernel_rfl))
  t0 := Try.underlying0
  a0 := Try.isAgg0
  z0 := Try.sizeOf0
  v0 := Try.zeroValue0
  t3 := Try.underlying3
  a3 := Try.isAgg3
  z3 := Try.sizeOf3
  v3 := Try.zeroValue3
  t4 := Try.underlying4
  a4 := Try.isAgg4
  z4 := Try.sizeOf4
  v4 := Try.zeroValue4
  t9 := Try.underlying9
  a9 := Try.isAgg9
  z9 := Try.sizeOf9
  v9 := Try.zeroValue9
  t37 := Try.underlying22
  a37 := Try.isAgg22
  z37 := Try.sizeOf22
  v37 := Try.zeroValue22
  t127 := Try.underlying113
  a127 := Try.isAgg113
  z127 := Try.sizeOf113
  v127 := Try.zeroValue113
  t5 := Try.underlying5
  a5 := Try.isAgg5
  z5 := Try.sizeOf5
  v5 := Try.zeroValue5
  i0 := by kernel_rfl
  i3 := by kernel_rfl
  i4 := by kernel_rfl
  i5 := by kernel_rfl
  i9 := by kernel_rfl
  i37 := by kernel_rfl
  i127 := by kernel_rfl }
end Go.Proofs.Ytmlijnekidihbaa

/-
  A cache's Put.
-/
namespace Go.Proofs.Ytmlijnekidihbaa
open Go.RowKit

set_option maxRecDepth 100000 in
theorem cnput_any (w : World) (nm : ByteArray) (pc : Int) (v : Value) : Calls Try.prog 14 #[.pointer none, .string nm, .int .i64 pc, v] w fun e w' => e = .returned (.tuple #[]) ∧ Below w.heap.size w w' := by
  have hq := eqc_nil
  go_enter Try.func14, Try.ntmps14
  go_wp2
  refine bodyPost_ret (results_none rfl _ _ _) rfl ?_
  exact ⟨rfl, (Below.refl _ _).alloc (Nat.le_refl _) _⟩

set_option maxRecDepth 100000 in
theorem csclone_any (s : ByteArray) (w : World) (hs : s.size ≤ 281474976710656) :
    Calls Try.prog 28 #[.string s] w fun e w' => e = .returned (.string s) ∧ Below w.heap.size w w' := by
  go_enter Try.func28, Try.ntmps28
  go_wp2_with (go_at_call 57; refine (Any.stringslite_Clone Try.sclL s w hs).mono ?_; rintro e w1 ⟨rfl, hb⟩)
  go_ret
  exact ⟨rfl, hb⟩

theorem CSt.keeps {q : Nat} {g g' : Gh} {w w' : World} (h : CSt q g g' w w') {j : Nat} (hj : j < w.heap.size) (hn : ¬ Gq g q j) : w'.heap[j]? = w.heap[j]? ∧ ¬ Gq g' q j :=
  ⟨h.touch.block j ⟨hj, hn⟩, fun hk => by rcases h.grows j hk with h1 | h1; exact hn h1; omega⟩

theorem CSt.store_new {q : Nat} {g g' : Gh} {w w' : World} (h : CSt q g g' w w') {b o : Nat} (hb : w.heap.size ≤ b) (v : Value) : CSt q g g' w (w'.setCell ⟨b, o, none⟩ v) :=
  ⟨h.touch.setCell (fun hR => by have := hR.1; simp at this; omega) v, fun k hk => by
    rcases h.grows k hk with h1 | ⟨h1, h2⟩
    · exact .inl h1
    · exact .inr ⟨h1, by simpa [World.setCell] using h2⟩⟩
theorem CS.store_out {g : Gh} {w : World} {q p n : Nat} {d : PD} {l : List Sl} {turn : Int} (h : CS g w q p d n l turn) {b o : Nat} (hb : ¬ Gq g q b) (v : Value) : CS g (w.setCell ⟨b, o, none⟩ v) q p d n l turn :=
  ⟨h.da.kept (R := g.F) ((Kept.refl _ w).setCell (fun e => hb (.inl e)) v) fun _ h => h, h.ca.kept (R := fun k => k ≠ b) ((Kept.refl _ w).setCell (by simp) v) (fun e => hb (.inr e.symm)), h.out⟩

/-- What a Put leaves, where the piece may be kept. -/
def PutC (D : CKey → List UInt8 → Prop) (g : Gh) (w : World) (q p : Nat) (d : PD) (n : Nat) (l : List Sl) (turn : Int) (nm : ByteArray) (pc : Int) (b : List UInt8) (e : Ending) (w' : World) : Prop :=
  e = .returned (.tuple #[]) ∧ ∃ (g' : Gh) (d' : PD) (l' : List Sl) (turn' : Int), CS g' w' q p d' n l' turn' ∧ CSt q g g' w w' ∧ turn ≤ turn' ∧ turn' ≤ turn + 1 ∧ PE D d l n nm pc b d' l'

set_option maxRecDepth 100000 in
set_option maxHeartbeats 2000000 in
theorem cput_no {g : Gh} {w : World} {q p n : Nat} {d : PD} {l : List Sl} {turn : Int} (h : CS g w q p d n l turn) (nm : ByteArray) (hnm : nm.size ≤ 1000) (pc : Int) (v : Value) (b : List UInt8) (hr : RdB w v b) (hno : n = 0 ∨ keptC nm pc b = false) :
    Calls Try.prog 14 #[.pointer (some ⟨q, 0, none⟩), .string nm, .int .i64 pc, v] w fun e w' => e = .returned (.tuple #[]) ∧ CS g w' q p d n l turn ∧ CSt q g g w w' := by
  obtain ⟨va, vc, rfl⟩ := rdB_form2 hr
  have hq := eqc_some
  obtain ⟨w1, hw1⟩ : ∃ w1, w1 = w.alloc (.cells #[.string nm, .int .i64 pc] 47) := ⟨_, rfl⟩
  have hb1 : Below w.heap.size w w1 := by subst hw1; exact (Below.refl _ _).alloc (Nat.le_refl _) _
  have hC1 := h.below hb1
  have HC1 := Lib.hid hC1
  have HT1 : Hid (CSt q g g w w1) := Lib.hid (CSt.below hb1)
  have cm : (w.alloc (.cells #[.string nm, .int .i64 pc] 47)).cell? ⟨q, 1, none⟩ = some (.int .i64 (n : Int)) := hw1 ▸ hC1.ca.mostc
  have HW := Lib.hid hw1
  have HMAY := Lib.hid (cmay_any nm (by unfold maxLen; omega) pc _ b w1 (hr.below hb1 (Nat.le_refl _)))
  clear h hr hb1 hC1 hw1
  by_cases hn : n = 0
  · have hni : ((n : Nat) : Int) = 0 := by omega
    clear hno hn
    go_enter Try.func14, Try.ntmps14
    go_wp2_with fail
    refine bodyPost_ret (results_none rfl _ _ _) rfl ?_
    rw [HW.out] at HC1 HT1
    exact ⟨rfl, HC1.out, HT1.out⟩
  · have hni : ¬ ((n : Nat) : Int) = 0 := by omega
    have hnb : (((n : Nat) : Int) == 0) = false := by simpa using hn
    have hkf : keptC nm pc b = false := hno.resolve_left hn
    rw [hkf] at HMAY
    clear hno hn hkf
    go_enter Try.func14, Try.ntmps14
    go_wp2_with fail
    rw [← HW.out]
    refine HMAY.out.mono ?_
    rintro e w2 ⟨rfl, hb2⟩
    have HC2 := Lib.hid (HC1.out.below hb2)
    have HT2 := Lib.hid (HT1.out.trans (CSt.below hb2))
    clear hb2
    go_wp2_with fail
    refine bodyPost_ret (results_none rfl _ _ _) rfl ?_
    exact ⟨rfl, HC2.out, HT2.out⟩

set_option maxRecDepth 100000 in
set_option maxHeartbeats 8000000 in
set_option linter.unusedSimpArgs false in
theorem cput_yes {D : CKey → List UInt8 → Prop} {g : Gh} {w : World} {q p n : Nat} {d : PD} {l : List Sl} {turn : Int} (h : CS g w q p d n l turn) (hi : CI d n l) (hsh : DShape D d) (hcl : d.calls + cntN 2 l ≤ 9900) (ht0 : 0 ≤ turn) (ht1 : turn ≤ 1000)
    (nm : ByteArray) (pc : Int) (v : Value) (b : List UInt8) (hr : RdB w v b) (hv : ∀ j, v.ownBlock = some j → ¬ Gq g q j) (hn : 0 < n) (hk : keptC nm pc b = true) (hD : D (nm, pc) b) :
    Calls Try.prog 14 #[.pointer (some ⟨q, 0, none⟩), .string nm, .int .i64 pc, v] w (PutC D g w q p d n l turn nm pc b) := by
  obtain ⟨va, vc, rfl⟩ := rdB_form2 hr
  obtain ⟨y1, y2, y3, y4, y5⟩ := kept_facts hk
  have hq := eqc_some
  have hnq : ¬ Gq g q w.heap.size := fun hg => by
    rcases hg with hg | hg
    · have := h.da.olt _ hg; omega
    · have := h.lt; omega
  obtain ⟨w1, hw1⟩ : ∃ w1, w1 = w.alloc (.cells #[.string nm, .int .i64 pc] 47) := ⟨_, rfl⟩
  have hb1 : Below w.heap.size w w1 := by subst hw1; exact (Below.refl _ _).alloc (Nat.le_refl _) _
  have hh1 : w1.heap[w.heap.size]? = some (.cells #[.string nm, .int .i64 pc] 47 (0, 0)) := by subst hw1; exact heap_alloc_new w _
  have hC1 := h.below hb1
  have HC1 := Lib.hid hC1
  have HT1 : Hid (CSt q g g w w1) := Lib.hid (CSt.below hb1)
  have HH1 := Lib.hid hh1
  have cm : (w.alloc (.cells #[.string nm, .int .i64 pc] 47)).cell? ⟨q, 1, none⟩ = some (.int .i64 (n : Int)) := hw1 ▸ hC1.ca.mostc
  have HW := Lib.hid hw1
  have hmay := cmay_any nm (by unfold maxLen; omega) pc _ b w1 (hr.below hb1 (Nat.le_refl _))
  rw [hk] at hmay
  have HMAY := Lib.hid hmay
  have hni : ¬ ((n : Nat) : Int) = 0 := by omega
  have hnb : (((n : Nat) : Int) == 0) = false := by rw [beq_eq_false_iff_ne]; omega
  have HI := Lib.hid hi
  have HSH := Lib.hid hsh
  have HR := Lib.hid hr
  have HV := Lib.hid hv
  have HK := Lib.hid hk
  have HD := Lib.hid hD
  have HNQ := Lib.hid hnq
  clear h hr hb1 hh1 hC1 hw1 hi hsh hv hk hD hmay hnq
  go_enter Try.func14, Try.ntmps14
  go_wp2_with fail
  rw [← HW.out]
  refine HMAY.out.mono ?_
  rintro e w2 ⟨rfl, hb2⟩
  have HC2 := Lib.hid (HC1.out.below hb2)
  have HT2 := Lib.hid (HT1.out.trans (CSt.below hb2))
  have HH2 := Lib.hid (show w2.heap[w.heap.size]? = some (.cells #[.string nm, .int .i64 pc] 47 (0, 0)) from (hb2.block _ (blk_lt HH1.out)).trans HH1.out)
  clear hb2 cm
  go_wp2_with fail
  refine (cready_at HC2.out HI.out HSH.out (by omega)).mono ?_
  rintro e w3 ⟨bb, g1, d1, l1, rfl, hC3, hT3, hRF⟩
  have hk3 := hT3.keeps (blk_lt HH2.out) HNQ.out
  have HC3 := Lib.hid hC3
  have HT3 := Lib.hid (HT2.out.trans hT3)
  have HH3 := Lib.hid (hk3.1.trans HH2.out)
  have HN3 := Lib.hid hk3.2
  have HRF := Lib.hid hRF
  clear hC3 hT3 hRF hk3
  cases bb with
  | false =>
    have HPE := Lib.hid (pe_ready (nm := nm) (pc := pc) (b := b) HRF.out (fun ho => by have := (HRF.out.okc ho).2; cases this))
    go_wp2_with fail
    refine bodyPost_ret (results_none rfl _ _ _) rfl ?_
    exact ⟨rfl, g1, d1, l1, turn, HC3.out, HT3.out, by omega, by omega, HPE.out⟩
  | true =>
    have l0' : w3.cell? ⟨w.heap.size, 0, none⟩ = some (.string nm) := blk_cell HH3.out
    have l1' : w3.cell? ⟨w.heap.size, 1, none⟩ = some (.int .i64 pc) := blk_cell HH3.out
    have HPLC := Lib.hid (cplace_any HC3.out.ca nm pc)
    go_wp2_with fail
    refine HPLC.out.mono ?_
    rintro e w4 ⟨r, rfl, hpl, hb4⟩
    obtain ⟨m, rfl, hPL⟩ := place_ok HRF.out HC3.out.ca.kinds hn hpl
    have hm64 := hPL.m64
    have HPL := Lib.hid hPL
    have HC4 := Lib.hid (HC3.out.below hb4)
    have HT4 := Lib.hid (HT3.out.trans (CSt.below hb4))
    have HH4 := Lib.hid (show w4.heap[w.heap.size]? = some (.cells #[.string nm, .int .i64 pc] 47 (0, 0)) from (hb4.block _ (blk_lt HH3.out)).trans HH3.out)
    have hpot := HRF.out.pot
    have hsm1 : Small d1 := HRF.out.sh.small (by omega)
    have hmk := cmark_at HC4.out.da hsm1 (by omega) HC4.out.ca.ptr m 0 hm64 (by omega)
    have hdw := dwrite HRF.out.sh (m * 565) [(0 : UInt8)] (by simp) (fun F hF ha j => good_mark0 (cur_good HRF.out.sh hF) hm64 ha j)
    rw [show [UInt8.ofNat 0] = [(0 : UInt8)] from rfl] at hmk
    generalize d1.write cName ((m * 565 : Nat) : Int) [(0 : UInt8)] = rr at hmk hdw
    obtain ⟨r1, d2⟩ := rr
    have HMK := Lib.hid hmk
    have HDW := Lib.hid hdw
    clear hpl hPL hb4 hmk hdw hsm1 l0' l1'
    have hmn : ¬ ((m : Int) < 0) := by omega
    have hm64i : (m : Int) < 64 := by omega
    go_wp2_with fail
    refine HMK.out.mono ?_
    rintro e w5 ⟨rfl, g2, hd2, hst2⟩
    have hC5 := HC4.out.step hst2 hd2
    have hT5 := CSt.step (q := q) hst2 hd2
    have hk5 := hT5.keeps (blk_lt HH4.out) HN3.out
    have HC5 := Lib.hid hC5
    have HT5 := Lib.hid (HT4.out.trans hT5)
    have HH5 := Lib.hid (hk5.1.trans HH4.out)
    have HN5 := Lib.hid hk5.2
    clear hd2 hst2 hC5 hT5 hk5
    by_cases hr1 : r1 = 0
    rotate_left
    · have hx : d2 = d1 ∨ d2.down = true := by
        rcases HDW.out.2.1 with ⟨_, h4⟩ | ⟨_, h4⟩ | ⟨h4, _⟩
        · exact .inl h4
        · exact .inr h4
        · exact absurd h4 hr1
      have hno : ¬ OkC d l := fun ho => by
        have ho1 := (HRF.out.okc ho).1
        obtain ⟨F, hF⟩ := HRF.out.file rfl ho1.snd.1
        have ha := HPL.out.ends ho1.snd.1 F hF
        exact hr1 (HDW.out.2.2 ho1.snd ⟨F, hF, ha, by simp; omega⟩)
      have hdid : Did D d1 d2 := HDW.out.1
      have hcc := hdid.calls
      have HPE : Hid (PE D d l n nm pc b d2 l1) := Lib.hid (by
        rcases hx with rfl | hx
        · exact pe_ready HRF.out hno
        · exact pe_down hdid.sh (ci_down HRF.out.ci hx) (by omega) (by rw [hdid.room, HRF.out.room]) (by rw [hdid.crash, HRF.out.crash]) hx hno)
      have hrb : decide ((r1, d2).1 = 0) = false := by simp [hr1]
      clear hx hno hdid hcc
      rw [hrb]
      clear hrb hr1
      go_wp2_with fail
      refine bodyPost_ret (results_none rfl _ _ _) rfl ?_
      exact ⟨rfl, g2, d2, l1, turn, HC5.out, HT5.out, by omega, by omega, HPE.out⟩
    · have hup : d1.down = false ∧ d2.down = false ∧ ∃ F, cur d1 = some F ∧ m * 565 ≤ F.length ∧ cur d2 = some (wr F (m * 565) [0]) := by
        rcases HDW.out.2.1 with ⟨h4, _⟩ | ⟨h4, _⟩ | ⟨_, h4, h5, h6⟩
        · exact absurd hr1 h4
        · exact absurd hr1 h4
        · exact ⟨h4, h5, h6⟩
      have HUP := Lib.hid hup
      have hdid : Did D d1 d2 := HDW.out.1
      have HDID := Lib.hid hdid
      have hcc := hdid.calls
      obtain ⟨s, hs⟩ : ∃ s, l1[m]? = some s := ⟨_, List.getElem?_eq_getElem (by have := HRF.out.ci.len; omega)⟩
      have HS := Lib.hid hs
      obtain ⟨e0, e1, e2, e3⟩ := HC5.out.ca.four hs
      have f0 := HC5.out.ca.free (2 + m * 4)
      have f1 := HC5.out.ca.free (2 + m * 4 + 1)
      have f2 := HC5.out.ca.free (2 + m * 4 + 2)
      have f3 := HC5.out.ca.free (2 + m * 4 + 3)
      obtain ⟨w6, hw6⟩ : ∃ w6, w6 = (((w5.setCell ⟨q, 2 + m * 4, none⟩ (.int .i64 2)).setCell ⟨q, 2 + m * 4 + 1, none⟩ (.string ⟨#[]⟩)).setCell ⟨q, 2 + m * 4 + 2, none⟩ (.int .i64 0)).setCell ⟨q, 2 + m * 4 + 3, none⟩ (.int .i64 0) := ⟨_, rfl⟩
      have HW6 := Lib.hid hw6
      have hC6 : CS g2 w6 q p d2 n (l1.set m staleS) turn := by rw [hw6]; exact HC5.out.set4 (s' := staleS) hs (Nat.le_refl _)
      have hT6 : CSt q g2 g2 w5 w6 := by rw [hw6]; exact CSt.store4 m _ _ _ _
      have hk6 := hT6.keeps (blk_lt HH5.out) HN5.out
      have hC6d : CS g2 w6.drew q p d2 n (l1.set m staleS) turn := hC6.below ((Below.refl _ _).drew)
      have HC6D := Lib.hid hC6d
      have HT6D := Lib.hid ((HT5.out.trans hT6).trans (CSt.below ((Below.refl w6.heap.size w6).drew)))
      have hh6 := hk6.1.trans HH5.out
      have HN6 := Lib.hid hk6.2
      have V0 := Lib.hid (show w6.cell? ⟨w.heap.size, 0, none⟩ = some (.string nm) from blk_cell hh6)
      have V1 := Lib.hid (show w6.cell? ⟨w.heap.size, 1, none⟩ = some (.int .i64 pc) from blk_cell hh6)
      have HH6 := Lib.hid hh6
      have CP6 : Hid (w6.cell? ⟨q, 0, none⟩ = some (.pointer (some ⟨p, 0, none⟩))) := Lib.hid hC6.ca.ptr
      have hrd6 : RdB w6.drew (.slice va b.length vc) b := rdB_kept HR.out HT6D.out.touch fun _ k e hk => ⟨hk, HV.out k e⟩
      have hbody := cbody_any nm pc _ b HK.out w6.drew hrd6
      have hbl := body_len HK.out
      obtain ⟨BB, hBB⟩ : ∃ BB, BB = bodyC nm pc b := ⟨_, rfl⟩
      rw [← hBB] at hbody hbl
      have HBODY := Lib.hid hbody
      have hpot2 : d2.calls ≤ 9910 := by omega
      have hsm2 : Small d2 := hdid.sh.small (by omega)
      have hg0 : ∀ F, cur d2 = some F → m * 565 + 1 ≤ F.length → ∀ j, GoodF D (wr F (m * 565 + 1) (BB.take j)) := fun F hF ha j => by
        obtain ⟨_, _, F0, _, h7, h8⟩ := hup
        rw [h8] at hF
        cases hF
        exact good_body (cur_good hdid.sh h8) hm64 ha (by rw [wr_get h7, if_neg (by omega), if_pos (by rw [List.length_singleton]; omega), Nat.sub_self]; rfl) (by omega) j
      have hdw3 := dwrite hdid.sh (m * 565 + 1) BB (by omega) hg0
      have hwr3 : ∀ (wz : World) (ba : Option Addr) (bk : Nat), DiskAt g2 wz p d2 → RdB wz (.slice ba BB.length bk) BB → (∀ k, (Value.slice ba BB.length bk).ownBlock = some k → w6.drew.heap.size ≤ k) → Calls Try.prog 26 #[.pointer (some ⟨p, 0, none⟩), .string ⟨#[99, 97, 99, 104, 101]⟩, .int .i64 ((m : Int) * 565 + 1), .slice ba BB.length bk] wz (Wrote g2 wz p (d2.write cName ((m * 565 + 1 : Nat) : Int) BB)) := fun wz ba bk h1 h2 h3 => by
        have := write_at h1 hsm2 (by omega) ⟨#[99, 97, 99, 104, 101]⟩ (by unfold maxLen; decide) ((m * 565 + 1 : Nat) : Int) _ BB h2 (by omega) (fun _ k e => by
          by_cases ho : g2.o k = .out
          · exact ho
          · have := hC6d.da.olt k ho
            have := h3 k e
            omega)
        rwa [show ((m * 565 + 1 : Nat) : Int) = (m : Int) * 565 + 1 by omega] at this ⊢
      generalize d2.write cName ((m * 565 + 1 : Nat) : Int) BB = rw3 at hdw3 hwr3
      obtain ⟨r3, d3⟩ := rw3
      have HWR := Lib.hid hwr3
      have HDW3 := Lib.hid hdw3
      have HBB := Lib.hid hBB
      have HBL := Lib.hid hbl
      have hj1 : IntKind.i64.wrap ((m : Int) * 565) = (m : Int) * 565 := IntWalk.i64_in _ (by omega)
      have hj2 : IntKind.i64.wrap ((m : Int) * 565 + 1) = (m : Int) * 565 + 1 := IntWalk.i64_in _ (by omega)
      have hi1 : wrap64 ((m : Int) * 565) = (m : Int) * 565 := IntWalk.wrap64_in _ (by omega)
      have hi2 : wrap64 ((m : Int) * 565 + 1) = (m : Int) * 565 + 1 := IntWalk.wrap64_in _ (by omega)
      have hrb : decide ((r1, d2).1 = 0) = true := by simp [hr1]
      rw [hrb]
      clear hrb hr1 hup hdid hcc hs hw6 hC6 hT6 hk6 hC6d hh6 hrd6 hbody hbl hBB hsm2 hg0 hdw3 hwr3
      go_wp2_with fail
      rw [← HW6.out]
      clear e0 e1 e2 e3 f0 f1 f2 f3
      by_cases hr3 : r3 = 0
      rotate_left
      · have hri : ¬ ((r3 : Nat) : Int) = 0 := by omega
        have hrt : (((r3 : Nat) : Int) != 0) = true := by simpa using hr3
        have hsl2 : ∀ i, i ≠ m → slotF (cFile d2) i = slotF (cFile d1) i := fun i hi => by
          obtain ⟨u1, u2, F, u3, u4, u5⟩ := HUP.out
          rw [cFile_up u1 u3, cFile_up u2 u5]
          exact slot_other (at_ := m) u4 (Nat.le_refl _) (by rw [List.length_singleton]; omega) hi
        have hsnd : OkC d l → Sound d2 := fun ho => by
          have ho1 := (HRF.out.okc ho).1
          exact ⟨HUP.out.2.1, by rw [HDID.out.crash]; exact ho1.snd.2.1, by rw [HDID.out.room]; exact ho1.snd.2.2⟩
        have hdid : Did D d1 d2 := HDID.out
        have hdid3 : Did D d2 d3 := HDW3.out.1
        have hc2 := hdid.calls
        have hc3 := hdid3.calls
        have hlen2 : ∃ F2, cur d2 = some F2 ∧ m * 565 + 1 ≤ F2.length ∧ m * 565 + 1 + BB.length ≤ 36160 := by
          obtain ⟨u1, u2, F, u3, u4, u5⟩ := HUP.out
          refine ⟨_, u5, ?_, ?_⟩
          · rw [wr_length _ _ _ u4, List.length_singleton]; omega
          · have := HBL.out; omega
        have HPE : Hid (PE D d l n nm pc b d3 (l1.set m staleS)) := Lib.hid (by
          refine pe_part HRF.out HPL.out hdid3.sh (by omega) (by rw [hdid3.room, hdid.room]) (by rw [hdid3.crash, hdid.crash]) ?_ fun ho => hr3 (HDW3.out.2.2 (hsnd ho) hlen2)
          rcases HDW3.out.2.1 with ⟨_, h4⟩ | ⟨_, h4⟩ | ⟨h4, _⟩
          · have h4' : d3 = d2 := h4
            subst h4'
            exact .inr ⟨HUP.out.1, hsl2⟩
          · exact .inl h4
          · exact absurd h4 hr3)
        clear hsl2 hsnd hdid hdid3 hc2 hc3 hlen2 hr3
        refine wp_region_two (fun wz => Below w6.drew.heap.size w6.drew wz) (fun _ => True) [(0, 0), (0, 1), (0, 2), (0, 3), (0, 4), (0, 5), (0, 6), (0, 7), (0, 8), (2, 9), (3, 10), (1, 11), (1, 12), (1, 13), (1, 14), (3, 15), (1, 16), (1, 17)] [10, 15] (by kernel_rfl) (by kernel_rfl) (by kernel_rfl) (by kernel_rfl) (by kernel_rfl) (Below.refl _ _) trivial ?_
        simp only [planT, List.drop_succ_cons, List.drop_zero]
        refine PlanT.take0 (v := ?vw0) (by kernel_rfl) ?yw0 ?rw0
        case yw0 => (intro wz hz; go_simp; try with_reducible rfl)
        (try simp only [Act.put, List.setIfInBounds_toArray, List.set_cons_zero, List.set_cons_succ])
        refine PlanT.take0 (v := ?vw1) (by kernel_rfl) ?yw1 ?rw1
        case yw1 => (intro wz hz; go_simp; try with_reducible rfl)
        (try simp only [Act.put, List.setIfInBounds_toArray, List.set_cons_zero, List.set_cons_succ])
        refine PlanT.take0 (v := ?vw2) (by kernel_rfl) ?yw2 ?rw2
        case yw2 => (intro wz hz; go_simp; try with_reducible rfl)
        (try simp only [Act.put, List.setIfInBounds_toArray, List.set_cons_zero, List.set_cons_succ])
        refine PlanT.take0 (v := ?vw3) (by kernel_rfl) ?yw3 ?rw3
        case yw3 => (intro wz hz; have cp := Ext.at_ hz CP6.out; go_simp; try with_reducible rfl)
        (try simp only [Act.put, List.setIfInBounds_toArray, List.set_cons_zero, List.set_cons_succ])
        refine PlanT.take0 (v := ?vw4) (by kernel_rfl) ?yw4 ?rw4
        case yw4 => (intro wz hz; go_simp; try with_reducible rfl)
        (try simp only [Act.put, List.setIfInBounds_toArray, List.set_cons_zero, List.set_cons_succ])
        refine PlanT.take0 (v := ?vw5) (by kernel_rfl) ?yw5 ?rw5
        case yw5 => (intro wz hz; go_simp; try with_reducible rfl)
        (try simp only [Act.put, List.setIfInBounds_toArray, List.set_cons_zero, List.set_cons_succ])
        refine PlanT.take0 (v := ?vw6) (by kernel_rfl) ?yw6 ?rw6
        case yw6 => (intro wz hz; go_simp; try with_reducible rfl)
        (try simp only [Act.put, List.setIfInBounds_toArray, List.set_cons_zero, List.set_cons_succ])
        refine PlanT.take0 (v := ?vw7) (by kernel_rfl) ?yw7 ?rw7
        case yw7 => (intro wz hz; have v0 := Ext.at_ hz V0.out; have v1 := Ext.at_ hz V1.out; go_simp; try with_reducible rfl)
        (try simp only [Act.put, List.setIfInBounds_toArray, List.set_cons_zero, List.set_cons_succ])
        refine PlanT.take0 (v := ?vw8) (by kernel_rfl) ?yw8 ?rw8
        case yw8 => (intro wz hz; go_simp; try with_reducible rfl)
        (try simp only [Act.put, List.setIfInBounds_toArray, List.set_cons_zero, List.set_cons_succ])
        refine PlanT.exec2 (fun K hK => ⟨by kernel_rfl, ?_⟩)
        go_simp
        go_at_call 27
        refine HBODY.out.mono ?_
        rintro e w7 ⟨vb, rfl, hob, hb7⟩
        obtain ⟨ba, bk, hvb⟩ := rdB_form2 hob.read
        subst hvb
        have HBR := Lib.hid hob.read
        have HBO := Lib.hid (show ∀ k, (Value.slice ba BB.length bk).ownBlock = some k → w6.drew.heap.size ≤ k from fun k hk => (World.ownsRow.lt hob k hk).1)
        have HC7 := Lib.hid (HC6D.out.below hb7)
        have HT7 := Lib.hid (HT6D.out.trans (CSt.below hb7))
        have HH7 := Lib.hid (show w7.heap[w.heap.size]? = some (.cells #[.string nm, .int .i64 pc] 47 (0, 0)) from (hb7.block w.heap.size (blk_lt HH6.out)).trans HH6.out)
        clear hob
        go_wp2_with fail
        refine hK.out _ _ hb7 trivial ?_
        clear hK K
        (try simp only [Act.put, List.setIfInBounds_toArray, List.set_cons_zero, List.set_cons_succ])
        refine PlanT.exec3 (fun K hK => ⟨by kernel_rfl, ?_⟩)
        go_simp
        go_at_call 26
        with_reducible refine (HWR.out _ ba bk HC7.out.da HBR.out (fun k hk => Nat.le_trans (Nat.le_refl _) (HBO.out k hk))).mono ?_
        rintro e w8 ⟨rfl, g3, hd3, hst3⟩
        have HC8 := Lib.hid (HC7.out.step hst3 hd3)
        have HT8 := Lib.hid (HT7.out.trans (CSt.step hst3 hd3))
        have hk8 := (CSt.step (q := q) hst3 hd3).keeps (blk_lt HH7.out) HN6.out
        have HH8 := Lib.hid (hk8.1.trans HH7.out)
        have HN8 := Lib.hid hk8.2
        clear hk8
        clear hd3 hst3
        go_wp2_with fail
        refine hK.out _ _ trivial ?_
        clear hK K
        (try simp only [Act.put, List.setIfInBounds_toArray, List.set_cons_zero, List.set_cons_succ])
        refine PlanT.take1 (v := .bool true) (by kernel_rfl) ?yw11 ?rw11
        case yw11 => (intro wz hz; go_simp; try with_reducible rfl)
        (try simp only [Act.put, List.setIfInBounds_toArray, List.set_cons_zero, List.set_cons_succ])
        refine PlanT.take1 (v := .bool true) (by kernel_rfl) ?yw12 ?rw12
        case yw12 => (intro wz hz; go_simp; try with_reducible rfl)
        (try simp only [Act.put, List.setIfInBounds_toArray, List.set_cons_zero, List.set_cons_succ])
        refine PlanT.skip (by kernel_rfl) ?_
        (try simp only [Act.put, List.setIfInBounds_toArray, List.set_cons_zero, List.set_cons_succ])
        refine PlanT.skip (by kernel_rfl) ?_
        (try simp only [Act.put, List.setIfInBounds_toArray, List.set_cons_zero, List.set_cons_succ])
        refine PlanT.skip (by kernel_rfl) ?_
        (try simp only [Act.put, List.setIfInBounds_toArray, List.set_cons_zero, List.set_cons_succ])
        refine PlanT.skip (by kernel_rfl) ?_
        (try simp only [Act.put, List.setIfInBounds_toArray, List.set_cons_zero, List.set_cons_succ])
        refine PlanT.take1 (v := ?vw17) (by kernel_rfl) ?yw17 ?rw17
        case yw17 => (intro wz hz; go_simp; try with_reducible rfl)
        (try simp only [Act.put, List.setIfInBounds_toArray, List.set_cons_zero, List.set_cons_succ])
        refine PlanT.done (NoPanic.normal ?_)
        go_wp2_with fail
        refine bodyPost_ret (results_none rfl _ _ _) rfl ?_
        exact ⟨rfl, g3, d3, _, turn, HC8.out, HT8.out, by omega, by omega, HPE.out⟩
      · have hri : ((r3 : Nat) : Int) = 0 := by omega
        have hrt : (((r3 : Nat) : Int) != 0) = false := by simp [hr3]
        have hsl2 : ∀ i, i ≠ m → slotF (cFile d2) i = slotF (cFile d1) i := fun i hi => by
          obtain ⟨u1, u2, F, u3, u4, u5⟩ := HUP.out
          rw [cFile_up u1 u3, cFile_up u2 u5]
          exact slot_other (at_ := m) u4 (Nat.le_refl _) (by rw [List.length_singleton]; omega) hi
        have hsnd : OkC d l → Sound d2 := fun ho => by
          have ho1 := (HRF.out.okc ho).1
          exact ⟨HUP.out.2.1, by rw [HDID.out.crash]; exact ho1.snd.2.1, by rw [HDID.out.room]; exact ho1.snd.2.2⟩
        have hdid : Did D d1 d2 := HDID.out
        have hdid3 : Did D d2 d3 := HDW3.out.1
        have hc2 := hdid.calls
        have hc3 := hdid3.calls
        have hlen2 : ∃ F2, cur d2 = some F2 ∧ m * 565 + 1 ≤ F2.length ∧ m * 565 + 1 + BB.length ≤ 36160 := by
          obtain ⟨u1, u2, F, u3, u4, u5⟩ := HUP.out
          refine ⟨_, u5, ?_, ?_⟩
          · rw [wr_length _ _ _ u4, List.length_singleton]; omega
          · have := HBL.out; omega
        have hup3 : d3.down = false ∧ ∃ F2, cur d2 = some F2 ∧ m * 565 + 1 ≤ F2.length ∧ cur d3 = some (wr F2 (m * 565 + 1) BB) := by
          rcases HDW3.out.2.1 with ⟨h4, _⟩ | ⟨h4, _⟩ | ⟨_, _, h5, h6⟩
          · exact absurd hr3 h4
          · exact absurd hr3 h4
          · exact ⟨h5, h6⟩
        have hF3 : ∃ F, cur d1 = some F ∧ m * 565 ≤ F.length ∧ cur d3 = some (wr (wr F (m * 565) [0]) (m * 565 + 1) BB) := by
          obtain ⟨u1, u2, F, u3, u4, u5⟩ := HUP.out
          obtain ⟨_, F2, u6, _, u7⟩ := id hup3
          rw [u5] at u6
          cases u6
          exact ⟨F, u3, u4, u7⟩
        have hsl3 : ∀ i, i ≠ m → slotF (cFile d3) i = slotF (cFile d1) i := fun i hi => by
          obtain ⟨_, F2, u6, u8, u7⟩ := id hup3
          rw [← hsl2 i hi, cFile_up HUP.out.2.1 u6, cFile_up hup3.1 u7]
          exact slot_other (at_ := m) u8 (by omega) (by have := HBL.out; omega) hi
        have hsnd3 : OkC d l → Sound d3 := fun ho => by
          have h2 := hsnd ho
          exact ⟨hup3.1, by rw [hdid3.crash]; exact h2.2.1, by rw [hdid3.room]; exact h2.2.2⟩
        have hsm3 : Small d3 := hdid3.sh.small (by omega)
        have hdw4 := dwrite hdid3.sh (m * 565) [(1 : UInt8)] (by simp) (fun F' hF ha j => by
          obtain ⟨F, u1, u2, u3⟩ := id hF3
          rw [u3] at hF
          cases hF
          exact good_mark1 (cur_good hdid3.sh u3) hm64 ha (by rw [HBB.out]; exact has_filled HK.out u2) HD.out j)
        have hmk4 : ∀ (gz : Gh) (wz : World), CS gz wz q p d3 n (l1.set m staleS) turn → Calls Try.prog 25 #[.pointer (some ⟨q, 0, none⟩), .int .i64 (m : Int), .int .i64 1] wz fun e w' => e = .returned (.bool (decide ((d3.write cName ((m * 565 : Nat) : Int) [(1 : UInt8)]).1 = 0))) ∧ ∃ g', DiskAt g' w' p (d3.write cName ((m * 565 : Nat) : Int) [(1 : UInt8)]).2 ∧ Step gz g' wz w' := fun gz wz hz => cmark_at hz.da hsm3 (by omega) hz.ca.ptr m 1 hm64 (Nat.le_refl _)
        generalize d3.write cName ((m * 565 : Nat) : Int) [(1 : UInt8)] = rw4 at hdw4 hmk4
        obtain ⟨r4, d4⟩ := rw4
        by_cases hr4 : r4 = 0
        rotate_left
        · have hdid4 : Did D d3 d4 := hdw4.1
          have hc4 := hdid4.calls
          have HPE : Hid (PE D d l n nm pc b d4 (l1.set m staleS)) := Lib.hid (by
            refine pe_part HRF.out HPL.out hdid4.sh (by omega) (by rw [hdid4.room, hdid3.room, hdid.room]) (by rw [hdid4.crash, hdid3.crash, hdid.crash]) ?_ fun ho => hr4 (hdw4.2.2 (hsnd3 ho) ?_)
            · rcases hdw4.2.1 with ⟨_, h4⟩ | ⟨_, h4⟩ | ⟨h4, _⟩
              · have h4' : d4 = d3 := h4
                subst h4'
                exact .inr ⟨HUP.out.1, hsl3⟩
              · exact .inl h4
              · exact absurd h4 hr4
            · obtain ⟨F, u1, u2, u3⟩ := id hF3
              refine ⟨_, u3, ?_, by rw [List.length_singleton]; omega⟩
              have q1 : (wr F (m * 565) [0]).length = max F.length (m * 565 + 1) := wr_length _ _ _ u2
              rw [wr_length _ _ _ (by omega)]
              omega)
          rw [show decide ((r4, d4).1 = 0) = false by simp [hr4]] at hmk4
          have HMK4 := Lib.hid hmk4
          clear hsl2 hsnd hdid hdid3 hc2 hc3 hlen2 hr3 hup3 hF3 hsl3 hsnd3 hsm3 hdw4 hmk4 hr4 hdid4 hc4 hri
          refine wp_region_two (fun wz => Below w6.drew.heap.size w6.drew wz) (fun _ => True) [(0, 0), (0, 1), (0, 2), (0, 3), (0, 4), (0, 5), (0, 6), (0, 7), (0, 8), (2, 9), (3, 10), (1, 11), (1, 12), (1, 13), (1, 14), (3, 15), (1, 16), (1, 17)] [10, 15] (by kernel_rfl) (by kernel_rfl) (by kernel_rfl) (by kernel_rfl) (by kernel_rfl) (Below.refl _ _) trivial ?_
          simp only [planT, List.drop_succ_cons, List.drop_zero]
          refine PlanT.take0 (v := ?vm0) (by kernel_rfl) ?ym0 ?rm0
          case ym0 => (intro wz hz; go_simp; try with_reducible rfl)
          (try simp only [Act.put, List.setIfInBounds_toArray, List.set_cons_zero, List.set_cons_succ])
          refine PlanT.take0 (v := ?vm1) (by kernel_rfl) ?ym1 ?rm1
          case ym1 => (intro wz hz; go_simp; try with_reducible rfl)
          (try simp only [Act.put, List.setIfInBounds_toArray, List.set_cons_zero, List.set_cons_succ])
          refine PlanT.take0 (v := ?vm2) (by kernel_rfl) ?ym2 ?rm2
          case ym2 => (intro wz hz; go_simp; try with_reducible rfl)
          (try simp only [Act.put, List.setIfInBounds_toArray, List.set_cons_zero, List.set_cons_succ])
          refine PlanT.take0 (v := ?vm3) (by kernel_rfl) ?ym3 ?rm3
          case ym3 => (intro wz hz; have cp := Ext.at_ hz CP6.out; go_simp; try with_reducible rfl)
          (try simp only [Act.put, List.setIfInBounds_toArray, List.set_cons_zero, List.set_cons_succ])
          refine PlanT.take0 (v := ?vm4) (by kernel_rfl) ?ym4 ?rm4
          case ym4 => (intro wz hz; go_simp; try with_reducible rfl)
          (try simp only [Act.put, List.setIfInBounds_toArray, List.set_cons_zero, List.set_cons_succ])
          refine PlanT.take0 (v := ?vm5) (by kernel_rfl) ?ym5 ?rm5
          case ym5 => (intro wz hz; go_simp; try with_reducible rfl)
          (try simp only [Act.put, List.setIfInBounds_toArray, List.set_cons_zero, List.set_cons_succ])
          refine PlanT.take0 (v := ?vm6) (by kernel_rfl) ?ym6 ?rm6
          case ym6 => (intro wz hz; go_simp; try with_reducible rfl)
          (try simp only [Act.put, List.setIfInBounds_toArray, List.set_cons_zero, List.set_cons_succ])
          refine PlanT.take0 (v := ?vm7) (by kernel_rfl) ?ym7 ?rm7
          case ym7 => (intro wz hz; have v0 := Ext.at_ hz V0.out; have v1 := Ext.at_ hz V1.out; go_simp; try with_reducible rfl)
          (try simp only [Act.put, List.setIfInBounds_toArray, List.set_cons_zero, List.set_cons_succ])
          refine PlanT.take0 (v := ?vm8) (by kernel_rfl) ?ym8 ?rm8
          case ym8 => (intro wz hz; go_simp; try with_reducible rfl)
          (try simp only [Act.put, List.setIfInBounds_toArray, List.set_cons_zero, List.set_cons_succ])
          refine PlanT.exec2 (fun K hK => ⟨by kernel_rfl, ?_⟩)
          go_simp
          go_at_call 27
          refine HBODY.out.mono ?_
          rintro e w7 ⟨vb, rfl, hob, hb7⟩
          obtain ⟨ba, bk, hvb⟩ := rdB_form2 hob.read
          subst hvb
          have HBR := Lib.hid hob.read
          have HBO := Lib.hid (show ∀ k, (Value.slice ba BB.length bk).ownBlock = some k → w6.drew.heap.size ≤ k from fun k hk => (World.ownsRow.lt hob k hk).1)
          have HC7 := Lib.hid (HC6D.out.below hb7)
          have HT7 := Lib.hid (HT6D.out.trans (CSt.below hb7))
          have HH7 := Lib.hid (show w7.heap[w.heap.size]? = some (.cells #[.string nm, .int .i64 pc] 47 (0, 0)) from (hb7.block w.heap.size (blk_lt HH6.out)).trans HH6.out)
          clear hob
          go_wp2_with fail
          refine hK.out _ _ hb7 trivial ?_
          clear hK K
          (try simp only [Act.put, List.setIfInBounds_toArray, List.set_cons_zero, List.set_cons_succ])
          refine PlanT.exec3 (fun K hK => ⟨by kernel_rfl, ?_⟩)
          go_simp
          go_at_call 26
          with_reducible refine (HWR.out _ ba bk HC7.out.da HBR.out (fun k hk => Nat.le_trans (Nat.le_refl _) (HBO.out k hk))).mono ?_
          rintro e w8 ⟨rfl, g3, hd3, hst3⟩
          have HC8 := Lib.hid (HC7.out.step hst3 hd3)
          have HT8 := Lib.hid (HT7.out.trans (CSt.step hst3 hd3))
          have hk8 := (CSt.step (q := q) hst3 hd3).keeps (blk_lt HH7.out) HN6.out
          have HH8 := Lib.hid (hk8.1.trans HH7.out)
          have HN8 := Lib.hid hk8.2
          clear hk8
          clear hd3 hst3
          go_wp2_with fail
          refine hK.out _ _ trivial ?_
          clear hK K
          (try simp only [Act.put, List.setIfInBounds_toArray, List.set_cons_zero, List.set_cons_succ])
          refine PlanT.take1 (v := .bool false) (by kernel_rfl) ?ym11 ?rm11
          case ym11 => (intro wz hz; go_simp; try with_reducible rfl)
          (try simp only [Act.put, List.setIfInBounds_toArray, List.set_cons_zero, List.set_cons_succ])
          refine PlanT.take1 (v := .bool false) (by kernel_rfl) ?ym12 ?rm12
          case ym12 => (intro wz hz; go_simp; try with_reducible rfl)
          (try simp only [Act.put, List.setIfInBounds_toArray, List.set_cons_zero, List.set_cons_succ])
          refine PlanT.take1 (v := ?vm13) (by kernel_rfl) ?ym13 ?rm13
          case ym13 => (intro wz hz; go_simp; try with_reducible rfl)
          (try simp only [Act.put, List.setIfInBounds_toArray, List.set_cons_zero, List.set_cons_succ])
          refine PlanT.take1 (v := ?vm14) (by kernel_rfl) ?ym14 ?rm14
          case ym14 => (intro wz hz; go_simp; try with_reducible rfl)
          (try simp only [Act.put, List.setIfInBounds_toArray, List.set_cons_zero, List.set_cons_succ])
          refine PlanT.exec3 (fun K hK => ⟨by kernel_rfl, ?_⟩)
          go_simp
          go_at_call 25
          refine (HMK4.out g3 w8 HC8.out).mono ?_
          rintro e w9 ⟨rfl, g4, hd4, hst4⟩
          have HC9 := Lib.hid (HC8.out.step hst4 hd4)
          have HT9 := Lib.hid (HT8.out.trans (CSt.step hst4 hd4))
          have hk9 := (CSt.step (q := q) hst4 hd4).keeps (blk_lt HH8.out) HN8.out
          have HH9 := Lib.hid (hk9.1.trans HH8.out)
          have HN9 := Lib.hid hk9.2
          clear hk9
          clear hd4 hst4
          go_wp2_with fail
          refine hK.out _ _ trivial ?_
          clear hK K
          (try simp only [Act.put, List.setIfInBounds_toArray, List.set_cons_zero, List.set_cons_succ])
          refine PlanT.take1 (v := ?vm16) (by kernel_rfl) ?ym16 ?rm16
          case ym16 => (intro wz hz; go_simp; try with_reducible rfl)
          (try simp only [Act.put, List.setIfInBounds_toArray, List.set_cons_zero, List.set_cons_succ])
          refine PlanT.take1 (v := ?vm17) (by kernel_rfl) ?ym17 ?rm17
          case ym17 => (intro wz hz; go_simp; try with_reducible rfl)
          (try simp only [Act.put, List.setIfInBounds_toArray, List.set_cons_zero, List.set_cons_succ])
          refine PlanT.done (NoPanic.normal ?_)
          go_wp2_with fail
          refine bodyPost_ret (results_none rfl _ _ _) rfl ?_
          exact ⟨rfl, g4, d4, _, turn, HC9.out, HT9.out, by omega, by omega, HPE.out⟩
        · have hdid4 : Did D d3 d4 := hdw4.1
          have hc4 := hdid4.calls
          have hup4 : d4.down = false ∧ ∃ F3, cur d3 = some F3 ∧ m * 565 ≤ F3.length ∧ cur d4 = some (wr F3 (m * 565) [1]) := by
            rcases hdw4.2.1 with ⟨h4, _⟩ | ⟨h4, _⟩ | ⟨_, _, h5, h6⟩
            · exact absurd hr4 h4
            · exact absurd hr4 h4
            · exact ⟨h5, h6⟩
          have hhas : HasC (cFile d4) m nm pc b := by
            obtain ⟨h5, F3, u6, u7, u8⟩ := id hup4
            obtain ⟨F, u1, u2, u3⟩ := id hF3
            rw [u3] at u6
            cases u6
            rw [cFile_up h5 u8, HBB.out]
            exact has_filled HK.out u2
          have hsl4 : ∀ i, i ≠ m → slotF (cFile d4) i = slotF (cFile d1) i := fun i hi => by
            obtain ⟨h5, F3, u6, u7, u8⟩ := id hup4
            rw [← hsl3 i hi, cFile_up hup3.1 u6, cFile_up h5 u8]
            exact slot_other (at_ := m) u7 (Nat.le_refl _) (by rw [List.length_singleton]; omega) hi
          have hsnd4 : OkC d l → Sound d4 := fun ho => by
            have h2 := hsnd3 ho
            exact ⟨hup4.1, by rw [hdid4.crash]; exact h2.2.1, by rw [hdid4.room]; exact h2.2.2⟩
          have hsf := dsafe hdid4.sh
          have hsm4 : Small d4 := hdid4.sh.small (by omega)
          have hsc : ∀ (gz : Gh) (wz : World), DiskAt gz wz p d4 → Calls Try.prog 29 #[.pointer (some ⟨p, 0, none⟩), .string ⟨#[99, 97, 99, 104, 101]⟩] wz fun e w' => e = .returned (.int .i64 ((d4.makeSafe cName).1 : Int)) ∧ ∃ g', DiskAt g' w' p (d4.makeSafe cName).2 ∧ Step gz g' wz w' := fun gz wz hz => safe_at hz hsm4 (by omega) ⟨#[99, 97, 99, 104, 101]⟩ (by unfold maxLen; decide)
          generalize d4.makeSafe cName = rs at hsf hsc
          obtain ⟨r5, d5⟩ := rs
          have HPE : Hid (PE D d l n nm pc b d5 (l1.set m ⟨1, nm, pc, turn + 1⟩)) := Lib.hid (by
            have hd5 : Did D d4 d5 := hsf.1
            have hc5 := hd5.calls
            refine pe_full HRF.out HPL.out hd5.sh (by omega) (by rw [hd5.room, hdid4.room, hdid3.room, hdid.room]) (by rw [hd5.crash, hdid4.crash, hdid3.crash, hdid.crash]) ?_ fun ho => hsf.2.2 (hsnd4 ho)
            rcases hsf.2.1 with h4 | h4 | ⟨_, h4, h5⟩
            · have h4' : d5 = d4 := h4
              subst h4'
              exact .inr ⟨HUP.out.1, hhas, hsl4⟩
            · exact .inl h4
            · have e : cFile d5 = cFile d4 := by
                rw [cFile_cur, cFile_cur, show d5.down = false from h4, hup4.1, show cur d5 = cur d4 from h5]
              exact .inr ⟨HUP.out.1, by rw [e]; exact hhas, by rw [e]; exact hsl4⟩)
          rw [show decide ((r4, d4).1 = 0) = true by simp [hr4]] at hmk4
          have HMK4 := Lib.hid hmk4
          have HSC := Lib.hid hsc
          clear hsl2 hsnd hdid hdid3 hc2 hc3 hlen2 hr3 hup3 hF3 hsl3 hsnd3 hsm3 hdw4 hmk4 hr4 hdid4 hc4 hri hup4 hhas hsl4 hsnd4 hsf hsm4 hsc
          refine wp_region_two (fun wz => Below w6.drew.heap.size w6.drew wz) (fun _ => True) [(0, 0), (0, 1), (0, 2), (0, 3), (0, 4), (0, 5), (0, 6), (0, 7), (0, 8), (2, 9), (3, 10), (1, 11), (1, 12), (1, 13), (1, 14), (3, 15), (1, 16), (1, 17)] [10, 15] (by kernel_rfl) (by kernel_rfl) (by kernel_rfl) (by kernel_rfl) (by kernel_rfl) (Below.refl _ _) trivial ?_
          simp only [planT, List.drop_succ_cons, List.drop_zero]
          refine PlanT.take0 (v := ?vf0) (by kernel_rfl) ?yf0 ?rf0
          case yf0 => (intro wz hz; go_simp; try with_reducible rfl)
          (try simp only [Act.put, List.setIfInBounds_toArray, List.set_cons_zero, List.set_cons_succ])
          refine PlanT.take0 (v := ?vf1) (by kernel_rfl) ?yf1 ?rf1
          case yf1 => (intro wz hz; go_simp; try with_reducible rfl)
          (try simp only [Act.put, List.setIfInBounds_toArray, List.set_cons_zero, List.set_cons_succ])
          refine PlanT.take0 (v := ?vf2) (by kernel_rfl) ?yf2 ?rf2
          case yf2 => (intro wz hz; go_simp; try with_reducible rfl)
          (try simp only [Act.put, List.setIfInBounds_toArray, List.set_cons_zero, List.set_cons_succ])
          refine PlanT.take0 (v := ?vf3) (by kernel_rfl) ?yf3 ?rf3
          case yf3 => (intro wz hz; have cp := Ext.at_ hz CP6.out; go_simp; try with_reducible rfl)
          (try simp only [Act.put, List.setIfInBounds_toArray, List.set_cons_zero, List.set_cons_succ])
          refine PlanT.take0 (v := ?vf4) (by kernel_rfl) ?yf4 ?rf4
          case yf4 => (intro wz hz; go_simp; try with_reducible rfl)
          (try simp only [Act.put, List.setIfInBounds_toArray, List.set_cons_zero, List.set_cons_succ])
          refine PlanT.take0 (v := ?vf5) (by kernel_rfl) ?yf5 ?rf5
          case yf5 => (intro wz hz; go_simp; try with_reducible rfl)
          (try simp only [Act.put, List.setIfInBounds_toArray, List.set_cons_zero, List.set_cons_succ])
          refine PlanT.take0 (v := ?vf6) (by kernel_rfl) ?yf6 ?rf6
          case yf6 => (intro wz hz; go_simp; try with_reducible rfl)
          (try simp only [Act.put, List.setIfInBounds_toArray, List.set_cons_zero, List.set_cons_succ])
          refine PlanT.take0 (v := ?vf7) (by kernel_rfl) ?yf7 ?rf7
          case yf7 => (intro wz hz; have v0 := Ext.at_ hz V0.out; have v1 := Ext.at_ hz V1.out; go_simp; try with_reducible rfl)
          (try simp only [Act.put, List.setIfInBounds_toArray, List.set_cons_zero, List.set_cons_succ])
          refine PlanT.take0 (v := ?vf8) (by kernel_rfl) ?yf8 ?rf8
          case yf8 => (intro wz hz; go_simp; try with_reducible rfl)
          (try simp only [Act.put, List.setIfInBounds_toArray, List.set_cons_zero, List.set_cons_succ])
          refine PlanT.exec2 (fun K hK => ⟨by kernel_rfl, ?_⟩)
          go_simp
          go_at_call 27
          refine HBODY.out.mono ?_
          rintro e w7 ⟨vb, rfl, hob, hb7⟩
          obtain ⟨ba, bk, hvb⟩ := rdB_form2 hob.read
          subst hvb
          have HBR := Lib.hid hob.read
          have HBO := Lib.hid (show ∀ k, (Value.slice ba BB.length bk).ownBlock = some k → w6.drew.heap.size ≤ k from fun k hk => (World.ownsRow.lt hob k hk).1)
          have HC7 := Lib.hid (HC6D.out.below hb7)
          have HT7 := Lib.hid (HT6D.out.trans (CSt.below hb7))
          have HH7 := Lib.hid (show w7.heap[w.heap.size]? = some (.cells #[.string nm, .int .i64 pc] 47 (0, 0)) from (hb7.block w.heap.size (blk_lt HH6.out)).trans HH6.out)
          clear hob
          go_wp2_with fail
          refine hK.out _ _ hb7 trivial ?_
          clear hK K
          (try simp only [Act.put, List.setIfInBounds_toArray, List.set_cons_zero, List.set_cons_succ])
          refine PlanT.exec3 (fun K hK => ⟨by kernel_rfl, ?_⟩)
          go_simp
          go_at_call 26
          with_reducible refine (HWR.out _ ba bk HC7.out.da HBR.out (fun k hk => Nat.le_trans (Nat.le_refl _) (HBO.out k hk))).mono ?_
          rintro e w8 ⟨rfl, g3, hd3, hst3⟩
          have HC8 := Lib.hid (HC7.out.step hst3 hd3)
          have HT8 := Lib.hid (HT7.out.trans (CSt.step hst3 hd3))
          have hk8 := (CSt.step (q := q) hst3 hd3).keeps (blk_lt HH7.out) HN6.out
          have HH8 := Lib.hid (hk8.1.trans HH7.out)
          have HN8 := Lib.hid hk8.2
          clear hk8
          clear hd3 hst3
          go_wp2_with fail
          refine hK.out _ _ trivial ?_
          clear hK K
          (try simp only [Act.put, List.setIfInBounds_toArray, List.set_cons_zero, List.set_cons_succ])
          refine PlanT.take1 (v := .bool false) (by kernel_rfl) ?yf11 ?rf11
          case yf11 => (intro wz hz; go_simp; try with_reducible rfl)
          (try simp only [Act.put, List.setIfInBounds_toArray, List.set_cons_zero, List.set_cons_succ])
          refine PlanT.take1 (v := .bool false) (by kernel_rfl) ?yf12 ?rf12
          case yf12 => (intro wz hz; go_simp; try with_reducible rfl)
          (try simp only [Act.put, List.setIfInBounds_toArray, List.set_cons_zero, List.set_cons_succ])
          refine PlanT.take1 (v := ?vf13) (by kernel_rfl) ?yf13 ?rf13
          case yf13 => (intro wz hz; go_simp; try with_reducible rfl)
          (try simp only [Act.put, List.setIfInBounds_toArray, List.set_cons_zero, List.set_cons_succ])
          refine PlanT.take1 (v := ?vf14) (by kernel_rfl) ?yf14 ?rf14
          case yf14 => (intro wz hz; go_simp; try with_reducible rfl)
          (try simp only [Act.put, List.setIfInBounds_toArray, List.set_cons_zero, List.set_cons_succ])
          refine PlanT.exec3 (fun K hK => ⟨by kernel_rfl, ?_⟩)
          go_simp
          go_at_call 25
          refine (HMK4.out g3 w8 HC8.out).mono ?_
          rintro e w9 ⟨rfl, g4, hd4, hst4⟩
          have HC9 := Lib.hid (HC8.out.step hst4 hd4)
          have HT9 := Lib.hid (HT8.out.trans (CSt.step hst4 hd4))
          have hk9 := (CSt.step (q := q) hst4 hd4).keeps (blk_lt HH8.out) HN8.out
          have HH9 := Lib.hid (hk9.1.trans HH8.out)
          have HN9 := Lib.hid hk9.2
          clear hk9
          clear hd4 hst4
          go_wp2_with fail
          refine hK.out _ _ trivial ?_
          clear hK K
          (try simp only [Act.put, List.setIfInBounds_toArray, List.set_cons_zero, List.set_cons_succ])
          refine PlanT.take1 (v := ?vf16) (by kernel_rfl) ?yf16 ?rf16
          case yf16 => (intro wz hz; go_simp; try with_reducible rfl)
          (try simp only [Act.put, List.setIfInBounds_toArray, List.set_cons_zero, List.set_cons_succ])
          refine PlanT.take1 (v := ?vf17) (by kernel_rfl) ?yf17 ?rf17
          case yf17 => (intro wz hz; go_simp; try with_reducible rfl)
          (try simp only [Act.put, List.setIfInBounds_toArray, List.set_cons_zero, List.set_cons_succ])
          refine PlanT.done (NoPanic.normal ?_)
          have l0' : w9.cell? ⟨w.heap.size, 0, none⟩ = some (.string nm) := blk_cell HH9.out
          have HCLN := Lib.hid (csclone_any nm w9 (by omega))
          go_wp2_with fail
          refine HCLN.out.mono ?_
          rintro e w10 ⟨rfl, hb10⟩
          have hh10 := (hb10.block _ (blk_lt HH9.out)).trans HH9.out
          have hC10 := HC9.out.below hb10
          have hT10 := HT9.out.trans (CSt.below hb10)
          obtain ⟨w11, hw11⟩ : ∃ w11, w11 = w10.setCell ⟨w.heap.size, 0, none⟩ (.string nm) := ⟨_, rfl⟩
          have hh11 : w11.heap[w.heap.size]? = some (.cells #[.string nm, .int .i64 pc] 47 (0, 0)) := by rw [hw11, blk_set hh10]; rfl
          have hC11 : CS g4 w11 q p d4 n (l1.set m staleS) turn := by rw [hw11]; exact hC10.store_out HN9.out _
          have hT11 : CSt q g g4 w w11 := by rw [hw11]; exact hT10.store_new (Nat.le_refl _) _
          obtain ⟨w12, hw12⟩ : ∃ w12, w12 = w11.setCell ⟨q, 258, none⟩ (.int .i64 (turn + 1)) := ⟨_, rfl⟩
          have hC12 : CS g4 w12 q p d4 n (l1.set m staleS) (turn + 1) := by rw [hw12]; exact hC11.set_turn (turn + 1)
          have hT12 : CSt q g g4 w w12 := by rw [hw12]; exact hT11.trans (CSt.store _ _)
          have hh12 : w12.heap[w.heap.size]? = some (.cells #[.string nm, .int .i64 pc] 47 (0, 0)) := by
            rw [hw12]
            exact (Below.heap_setCell _ _ _ _ (fun e => HN9.out (.inr e))).trans hh11
          have a0 : w10.cell? ⟨w.heap.size, 0, none⟩ = some (.string nm) := blk_cell hh10
          have a1 : w10.frozen? ⟨w.heap.size, 0, none⟩ = false := blk_free hh10
          have a2 : (w10.setCell ⟨w.heap.size, 0, none⟩ (.string nm)).cell? ⟨q, 258, none⟩ = some (.int .i64 turn) := hw11 ▸ hC11.ca.turnc
          have a3 : (w10.setCell ⟨w.heap.size, 0, none⟩ (.string nm)).frozen? ⟨q, 258, none⟩ = false := hw11 ▸ hC11.ca.free 258
          have hwr : wrap64 (turn + 1) = turn + 1 := IntWalk.wrap64_in _ (by omega)
          have HW11 := Lib.hid hw11
          have HW12 := Lib.hid hw12
          have HC12 := Lib.hid hC12
          have HT12 := Lib.hid hT12
          have V0 := Lib.hid (show w12.cell? ⟨w.heap.size, 0, none⟩ = some (.string nm) from blk_cell hh12)
          have V1 := Lib.hid (show w12.cell? ⟨w.heap.size, 1, none⟩ = some (.int .i64 pc) from blk_cell hh12)
          have CT := Lib.hid (show w12.cell? ⟨q, 258, none⟩ = some (.int .i64 (turn + 1)) from hC12.ca.turnc)
          have hss : (l1.set m staleS)[m]? = some staleS := List.getElem?_set_self (by have := HRF.out.ci.len; omega)
          have HSS := Lib.hid hss
          clear hb10 hh10 hC10 hT10 hw11 hh11 hC11 hT11 hw12 hC12 hT12 hh12 l0' hss
          go_wp2_with fail
          rw [← HW11.out, ← HW12.out]
          obtain ⟨e0, e1, e2, e3⟩ := HC12.out.ca.four HSS.out
          have f0 := HC12.out.ca.free (2 + m * 4)
          have f1 := HC12.out.ca.free (2 + m * 4 + 1)
          have f2 := HC12.out.ca.free (2 + m * 4 + 2)
          have f3 := HC12.out.ca.free (2 + m * 4 + 3)
          clear a0 a1 a2 a3
          refine wp_region_two (fun wz => Below w12.drew.heap.size w12.drew wz) (fun _ => True) [(0, 0), (0, 1), (0, 2), (0, 3), (0, 4), (0, 5), (0, 6), (0, 7), (0, 8), (0, 9), (0, 10), (3, 11)] [11] (by kernel_rfl) (by kernel_rfl) (by kernel_rfl) (by kernel_rfl) (by kernel_rfl) (Below.refl _ _) trivial ?_
          simp only [planT, List.drop_succ_cons, List.drop_zero]
          refine PlanT.take0 (v := ?vs0) (by kernel_rfl) ?ys0 ?rs0
          case ys0 => (intro wz hz; go_simp; try with_reducible rfl)
          (try simp only [Act.put, List.setIfInBounds_toArray, List.set_cons_zero, List.set_cons_succ])
          refine PlanT.take0 (v := ?vs1) (by kernel_rfl) ?ys1 ?rs1
          case ys1 => (intro wz hz; go_simp; try with_reducible rfl)
          (try simp only [Act.put, List.setIfInBounds_toArray, List.set_cons_zero, List.set_cons_succ])
          refine PlanT.take0 (v := ?vs2) (by kernel_rfl) ?ys2 ?rs2
          case ys2 => (intro wz hz; have v0 := Ext.at_ hz V0.out; have v1 := Ext.at_ hz V1.out; go_simp; try with_reducible rfl)
          (try simp only [Act.put, List.setIfInBounds_toArray, List.set_cons_zero, List.set_cons_succ])
          refine PlanT.take0 (v := ?vs3) (by kernel_rfl) ?ys3 ?rs3
          case ys3 => (intro wz hz; go_simp; try with_reducible rfl)
          (try simp only [Act.put, List.setIfInBounds_toArray, List.set_cons_zero, List.set_cons_succ])
          refine PlanT.take0 (v := ?vs4) (by kernel_rfl) ?ys4 ?rs4
          case ys4 => (intro wz hz; go_simp; try with_reducible rfl)
          (try simp only [Act.put, List.setIfInBounds_toArray, List.set_cons_zero, List.set_cons_succ])
          refine PlanT.take0 (v := ?vs5) (by kernel_rfl) ?ys5 ?rs5
          case ys5 => (intro wz hz; go_simp; try with_reducible rfl)
          (try simp only [Act.put, List.setIfInBounds_toArray, List.set_cons_zero, List.set_cons_succ])
          refine PlanT.take0 (v := ?vs6) (by kernel_rfl) ?ys6 ?rs6
          case ys6 => (intro wz hz; have ct := Ext.at_ hz CT.out; go_simp; try with_reducible rfl)
          (try simp only [Act.put, List.setIfInBounds_toArray, List.set_cons_zero, List.set_cons_succ])
          refine PlanT.take0 (v := ?vs7) (by kernel_rfl) ?ys7 ?rs7
          case ys7 => (intro wz hz; go_simp; try with_reducible rfl)
          (try simp only [Act.put, List.setIfInBounds_toArray, List.set_cons_zero, List.set_cons_succ])
          refine PlanT.take0 (v := ?vs8) (by kernel_rfl) ?ys8 ?rs8
          case ys8 => (intro wz hz; go_simp; try with_reducible rfl)
          (try simp only [Act.put, List.setIfInBounds_toArray, List.set_cons_zero, List.set_cons_succ])
          refine PlanT.take0 (v := ?vs9) (by kernel_rfl) ?ys9 ?rs9
          case ys9 => (intro wz hz; go_simp; try with_reducible rfl)
          (try simp only [Act.put, List.setIfInBounds_toArray, List.set_cons_zero, List.set_cons_succ])
          refine PlanT.take0 (v := ?vs10) (by kernel_rfl) ?ys10 ?rs10
          case ys10 => (intro wz hz; go_simp; try with_reducible rfl)
          (try simp only [Act.put, List.setIfInBounds_toArray, List.set_cons_zero, List.set_cons_succ])
          refine PlanT.exec3 (fun K hK => ⟨by kernel_rfl, ?_⟩)
          go_simp
          refine hK.out _ _ trivial ?_
          clear hK K
          (try simp only [Act.put, List.setIfInBounds_toArray, List.set_cons_zero, List.set_cons_succ])
          refine PlanT.done (NoPanic.normal ?_)
          have hC12d : CS g4 w12.drew q p d4 n (l1.set m staleS) (turn + 1) := HC12.out.below ((Below.refl _ _).drew)
          obtain ⟨w13, hw13⟩ : ∃ w13, w13 = (((((w12.setCell ⟨q, 2 + m * 4, none⟩ (.int .i64 1)).setCell ⟨q, 2 + m * 4 + 1, none⟩ (.string nm)).setCell ⟨q, 2 + m * 4 + 2, none⟩ (.int .i64 pc)).setCell ⟨q, 2 + m * 4 + 3, none⟩ (.int .i64 (turn + 1))).drew) := ⟨_, rfl⟩
          have hC13 : CS g4 w13 q p d4 n (l1.set m ⟨1, nm, pc, turn + 1⟩) (turn + 1) := by
            have h := hC12d.set4 (s' := ⟨1, nm, pc, turn + 1⟩) HSS.out (by simp)
            rw [List.set_set] at h
            rw [hw13]
            exact h
          have hT13 : CSt q g g4 w w13 := by
            rw [hw13]
            exact (HT12.out.trans (CSt.below ((Below.refl w12.heap.size w12).drew))).trans (CSt.store4 m (.int .i64 1) (.string nm) (.int .i64 pc) (.int .i64 (turn + 1)))
          have cp13 : ((((w12.setCell ⟨q, 2 + m * 4, none⟩ (.int .i64 1)).setCell ⟨q, 2 + m * 4 + 1, none⟩ (.string nm)).setCell ⟨q, 2 + m * 4 + 2, none⟩ (.int .i64 pc)).setCell ⟨q, 2 + m * 4 + 3, none⟩ (.int .i64 (turn + 1))).cell? ⟨q, 0, none⟩ = some (.pointer (some ⟨p, 0, none⟩)) := by
            have h := hC13.ca.ptr
            rw [hw13] at h
            exact h
          have HC13 := Lib.hid hC13
          have HT13 := Lib.hid hT13
          have HW13 := Lib.hid hw13
          have HSC13 := Lib.hid (HSC.out _ _ hC13.da)
          clear hC12d hC13 hT13 hw13 e0 e1 e2 e3 f0 f1 f2 f3
          go_wp2_with fail
          rw [← HW13.out]
          refine HSC13.out.mono ?_
          rintro e w14 ⟨rfl, g5, hd5, hst5⟩
          have HC14 := Lib.hid (HC13.out.step hst5 hd5)
          have HT14 := Lib.hid (HT13.out.trans (CSt.step hst5 hd5))
          clear hd5 hst5
          go_wp2_with fail
          go_end0
          exact ⟨rfl, g5, d5, _, turn + 1, HC14.out, HT14.out, by omega, by omega, HPE.out⟩
end Go.Proofs.Ytmlijnekidihbaa
