import Derived.Test.YteeikmpfgbfeoaaMg11
import Derived.Test.YteeikmpfgbfeoaaMg10
import Derived.Test.YteeikmpfgbfeoaaMg07
import Derived.Test.YteeikmpfgbfeoaaMg01
import Derived.Test.YteeikmpfgbfeoaaMg05
import Derived.Test.YteeikmpfgbfeoaaMg08
import Derived.Test.YteeikmpfgbfeoaaMemMath
import Derived.Test.YteeikmpfgbfeoaaMg03
import Derived.Test.YteeikmpfgbfeoaaMg09
import Derived.Test.YteeikmpfgbfeoaaMg04
import Derived.Test.YteeikmpfgbfeoaaBase
import Derived.Test.YteeikmpfgbfeoaaRows
import Derived.ProofKit
import Derived.OpenShut
import Derived.ShutString
import Derived.ChangeOld

/-
  Blocks: the first entry that is not below a key, as the program seeks it.
-/
namespace Go.Proofs.Yteeikmpfgbfeoaa
open Go.RowKit

theorem blk_parts {b : List UInt8} {es : List Ent} (h : IsBlk b es) : b.length = (bodyN es es.length).length + 4 * ((es.length + 3) / 4) + 2 ∧ valL (b.drop (b.length - 2)) = (es.length + 3) / 4 ∧ b.take (bodyN es es.length).length = bodyN es es.length ∧ (b.drop (bodyN es es.length).length).take (4 * ((es.length + 3) / 4)) = tailN es es.length := by
  obtain ⟨h1, h2, h3⟩ := putErr_ok h.1
  have hl := blockL_len es
  have hc := blockL_count es h3
  rw [← h.2]
  refine ⟨hl, hc, ?_, ?_⟩
  · unfold blockL
    rw [List.append_assoc, List.take_left' rfl]
  · unfold blockL
    rw [List.append_assoc, List.drop_left' rfl, List.take_left' (by rw [tailN_len])]

set_option maxRecDepth 100000 in
set_option maxHeartbeats 400000 in
theorem seek_no (v : Value) (b : List UInt8) (u : ByteArray) (s k : Int) (w : World) (hv : RdB w v b) (hl : b.length ≤ 1000000) (hg : getB b = none) :
    Calls Try.prog 55 #[v, .agg #[.string u, .int .i64 s, .int .i64 k]] w fun e w' => e = .returned (ansN none) ∧ Below w.heap.size w w' := by
  have HG : Hid (∀ wz, Below w.heap.size w wz → Calls Try.prog 68 #[v] wz fun e w' => ∃ x, e = .returned (.tuple #[x, .bool false]) ∧ Below wz.heap.size wz w') := Lib.hid fun wz hz => by
    refine (get_any0 v b wz (hv.below hz (Nat.le_refl _)) hl).mono ?_
    rintro e w' ⟨x, rfl, _, hb⟩
    exact ⟨x, by rw [hg]; rfl, hb⟩
  clear hv hg
  go_enter Try.func55, Try.ntmps55
  go_wp2_with (go_at_call 68; (refine (HG.out _ (((Below.refl _ _).alloc (Nat.le_refl _) _).alloc (by simp) _)).mono ?_); rintro e w1 ⟨x, rfl, hb1⟩; have hr : w1.heap[w.heap.size + 1]? = some (.cells #[.string ⟨#[]⟩, .int .i64 0, .int .i64 0, .string ⟨#[]⟩] 34 (0, 0)) := (hb1.block _ (by simp)).trans (heap_new2 w _ _); have HR := Lib.hid hr; have HB1 : Hid (Below w.heap.size w w1) := Lib.hid ((((Below.refl _ _).alloc (Nat.le_refl _) _).alloc (by simp) _).trans (hb1.mono (by simp; omega))); have s0 := blk_cell (i := 0) hr; have t0 := blk_free (i := 0) hr; have s1 := blk_cell (i := 1) hr; have t1 := blk_free (i := 1) hr; have s2 := blk_cell (i := 2) hr; have t2 := blk_free (i := 2) hr; have s3 := blk_cell (i := 3) hr; have t3 := blk_free (i := 3) hr; clear hr hb1)
  refine bodyPost_ret (results_row_tmp rfl _ _ (w.heap.size + 1) 34 #[.string ⟨#[]⟩, .int .i64 0, .int .i64 0, .string ⟨#[]⟩] (0, 0) _ rfl ?hgE Try.underlying34 rfl (by kernel_rfl)) rfl ?_
  case hgE => exact (set4 HR.out rfl rfl rfl rfl).1
  exact ⟨rfl, (set4 HR.out rfl rfl rfl rfl).2 _ (Nat.le_succ _) _ HB1.out⟩

set_option maxRecDepth 100000 in
set_option maxHeartbeats 400000 in
theorem seek_yes (v : Value) (b : List UInt8) (es : List Ent) (u : ByteArray) (s k : Int) (w : World) (hv : RdB w v b) (hl : b.length ≤ 1000000) (hu : u.size ≤ 1000) (hg : IsBlk b es) :
    Calls Try.prog 55 #[v, .agg #[.string u, .int .i64 s, .int .i64 k]] w fun e w' => e = .returned (ansN (aboveL es u s k)) ∧ Below w.heap.size w w' := by
  have HG : Hid (∀ wz, Below w.heap.size w wz → Calls Try.prog 68 #[v] wz fun e w' => ∃ x, e = .returned (.tuple #[x, .bool true]) ∧ Below wz.heap.size wz w') := Lib.hid fun wz hz => by
    refine (get_any0 v b wz (hv.below hz (Nat.le_refl _)) hl).mono ?_
    rintro e w' ⟨x, rfl, _, hb⟩
    exact ⟨x, by rw [getB_some hg]; rfl, hb⟩
  obtain ⟨h1, h2, h3⟩ := putErr_ok hg.1
  have hpos := List.length_pos_iff.2 h2
  obtain ⟨p1, p2, p3, p4⟩ := blk_parts hg
  have hm := fun k (hk : k < es.length) => rising_may h1 hk
  have HSP : Hid (∀ wz, Below w.heap.size w wz → Calls Try.prog 71 #[v] wz fun e w' => ∃ x y, e = .returned (.tuple #[x, y, .bool true]) ∧ RdB w' x (bodyN es es.length) ∧ RdB w' y (tailN es es.length) ∧ Below wz.heap.size wz w') := Lib.hid fun wz hz => by
    have h := split_yes v b wz (hv.below hz (Nat.le_refl _)) _ _ p2 p1
    rw [p3, p4] at h
    exact h
  have HST := Lib.hid (fun x y wz => start_any h1 hpos h3 x y u s k wz (by unfold maxLen; omega))
  have HRE : Hid (∀ i, i < es.length → readP (bodyN es es.length) (prevU es i) (bodyN es i).length = some (es.getD i Ent.none_, (bodyN es (i + 1)).length)) := Lib.hid fun i hi => read_at hm hi
  have HRW : Hid (∀ i, 4 * i < es.length → readP (bodyN es es.length) [] (bodyN es (4 * i)).length = some (es.getD (4 * i) Ent.none_, (bodyN es (4 * i + 1)).length)) := Lib.hid fun i hi => read_whole hm hi
  have HSU : Hid (∀ k, k < es.length → (es.getD k Ent.none_).u.size ≤ 64) := Lib.hid fun k hk => by
    have := (may_facts (hm k hk)).1
    rw [size_list] at this
    exact this
  have HLT : Hid (∀ i, i ≤ es.length → ((bodyN es i).length < (bodyN es es.length).length ↔ i < es.length)) := Lib.hid fun i hi => (⟨rfl, hm⟩ : IsBody (bodyN es es.length) es).at_end hi
  have HLN : Hid (∀ i, (bodyN es i).length < (bodyN es (i + 1)).length) := Lib.hid fun i => bodyN_lt es (Nat.lt_succ_self i)
  have hbc : (bodyN es es.length).length ≤ 1000000 := by omega
  clear hv hg h1 h2 h3 hpos p1 p2 p3 p4 hm hl
  have HPV : Hid (∀ i, prevU es (i + 1) = (es.getD i Ent.none_).u.data.toList) := Lib.hid fun i => by unfold prevU; rw [if_neg (by omega), Nat.add_sub_cancel]
  generalize tailN es es.length = t at *
  generalize bodyN es es.length = c at *
  obtain ⟨bl, hbl⟩ : ∃ bl : Nat → Nat, bl = fun i => (bodyN es i).length := ⟨_, rfl⟩
  have HBE : Hid (∀ i, (bodyN es i).length = bl i) := Lib.hid fun i => by rw [hbl]
  clear hbl
  simp only [HBE.out] at HRE HRW HLT HLN HST
  clear HBE
  go_enter Try.func55, Try.ntmps55
  go_wp2_with (first | (go_at_call 68; (refine (HG.out _ (((Below.refl _ _).alloc (Nat.le_refl _) _).alloc (by simp) _)).mono ?_); rintro e w1 ⟨gx, rfl, hb1⟩; have HB1 : Hid (Below w.heap.size w w1) := Lib.hid ((((Below.refl _ _).alloc (Nat.le_refl _) _).alloc (by simp) _).trans (hb1.mono (by simp; omega))); have HK1 : Hid (w1.heap[w.heap.size]? = some (.cells #[.string u, .int .i64 s, .int .i64 k] 32 (0, 0))) := Lib.hid ((hb1.block _ (by simp; omega)).trans (alloc_keep (heap_alloc_new w _))); have HR1 : Hid (w1.heap[w.heap.size + 1]? = some (.cells #[.string ⟨#[]⟩, .int .i64 0, .int .i64 0, .string ⟨#[]⟩] 34 (0, 0))) := Lib.hid ((hb1.block _ (by simp)).trans (heap_new2 w _ _)); clear hb1) | (go_at_call 71; (refine (HSP.out _ HB1.out).mono ?_); rintro e w2 ⟨sx, y, rfl, hx, hy, hb2⟩; obtain ⟨xa, xc, rfl, _, _⟩ := hx.form; have HX2 := Lib.hid hx; have HY2 := Lib.hid hy; have HB2 : Hid (Below w.heap.size w w2) := Lib.hid (HB1.out.trans (hb2.mono HB1.out.size)); have HK2 : Hid (w2.heap[w.heap.size]? = some (.cells #[.string u, .int .i64 s, .int .i64 k] 32 (0, 0))) := Lib.hid ((hb2.block _ (blk_lt HK1.out)).trans HK1.out); have HR2 : Hid (w2.heap[w.heap.size + 1]? = some (.cells #[.string ⟨#[]⟩, .int .i64 0, .int .i64 0, .string ⟨#[]⟩] 34 (0, 0))) := Lib.hid ((hb2.block _ (blk_lt HR1.out)).trans HR1.out); have y0 : w2.cell? ⟨w.heap.size, 0, none⟩ = some (.string u) := blk_cell (i := 0) HK2.out; have y1 : w2.cell? ⟨w.heap.size, 1, none⟩ = some (.int .i64 s) := blk_cell (i := 1) HK2.out; have y2 : w2.cell? ⟨w.heap.size, 2, none⟩ = some (.int .i64 k) := blk_cell (i := 2) HK2.out; clear hb2 hx hy) | (go_at_call 72; (refine (HST.out _ _ _ HX2.out HY2.out).mono ?_); rintro e w5 ⟨j, hj, rfl, hlo, hb5⟩; have HLO := Lib.hid hlo; have HX5 := Lib.hid (HX2.out.below hb5 (Nat.le_refl _)); have HB5 : Hid (Below w.heap.size w w5) := Lib.hid (HB2.out.trans (hb5.mono HB2.out.size)); have HK5 : Hid (w5.heap[w.heap.size]? = some (.cells #[.string u, .int .i64 s, .int .i64 k] 32 (0, 0))) := Lib.hid ((hb5.block _ (blk_lt HK2.out)).trans HK2.out); have HR5 : Hid (w5.heap[w.heap.size + 1]? = some (.cells #[.string ⟨#[]⟩, .int .i64 0, .int .i64 0, .string ⟨#[]⟩] 34 (0, 0))) := Lib.hid ((hb5.block _ (blk_lt HR2.out)).trans HR2.out); clear hb5 hlo y0 y1 y2))
  have HXB := Lib.hid (show RdB w5 (.slice xa c.length xc) c ∧ Below w.heap.size w w5 ∧ w5.heap[w.heap.size]? = some (.cells #[.string u, .int .i64 s, .int .i64 k] 32 (0, 0)) ∧ w5.heap[w.heap.size + 1]? = some (.cells #[.string ⟨#[]⟩, .int .i64 0, .int .i64 0, .string ⟨#[]⟩] 34 (0, 0)) from ⟨HX5.out, HB5.out, HK5.out, HR5.out⟩)
  clear HX5 HB5 HK5 HR5
  go_loopw [11, 12] (fun at_ last wr => ∃ (i : Nat) (L : ByteArray), i ≤ es.length ∧ at_ = .int .i64 ((bl i : Nat) : Int) ∧ last = .string L ∧ L.size ≤ 64 ∧ Hid (i < es.length → readP c L.data.toList (bl i) = some (es.getD i Ent.none_, bl (i + 1))) ∧ Hid (∀ a, a < i → (es.getD a Ent.none_).cmp ⟨u, s, k, ⟨#[]⟩⟩ < 0) ∧ Hid (RdB wr (.slice xa c.length xc) c) ∧ Hid (Below w.heap.size w wr ∧ wr.heap[w.heap.size]? = some (.cells #[.string u, .int .i64 s, .int .i64 k] 32 (0, 0)) ∧ wr.heap[w.heap.size + 1]? = some (.cells #[.string ⟨#[]⟩, .int .i64 0, .int .i64 0, .string ⟨#[]⟩] 34 (0, 0)))) (fun at_ _ _ => c.length - (intOf at_).toNat)
  case atStart => exact ⟨4 * j, ⟨#[]⟩, by omega, rfl, rfl, by simp [ByteArray.size], Lib.hid (fun h => HRW.out j h), HLO, Lib.hid HXB.out.1, Lib.hid HXB.out.2⟩
  case round =>
    obtain ⟨i, L, hi, rfl, rfl, hL, HRI, HK, HX, HB⟩ := hrel
    have hie := HLT.out i hi
    by_cases hlt : i < es.length
    · have hlc := hie.2 hlt
      have k1 : decide ((bl i : Int) < (c.length : Int)) = true := by simp; omega
      have k1n : decide (bl i < c.length) = true := by simp; omega
      have hrd := read_any (.slice xa c.length xc) c L (bl i) wr HX.out (by omega)
      rw [HRI.out hlt] at hrd
      have HAT := Lib.hid (@above_at es u s k i hlt HK.out)
      have HMO := Lib.hid (show (es.getD i Ent.none_).cmp ⟨u, s, k, ⟨#[]⟩⟩ < 0 → ∀ a, a < i + 1 → (es.getD a Ent.none_).cmp ⟨u, s, k, ⟨#[]⟩⟩ < 0 from fun h2 a ha => by
        rcases Nat.lt_or_ge a i with h1 | h1
        · exact HK.out a h1
        · obtain rfl : a = i := by omega
          exact h2)
      have HRN := Lib.hid (fun h : i + 1 < es.length => HRE.out (i + 1) h)
      rw [HPV.out i] at HRN
      have hsu := HSU.out i hlt
      have hln := HLN.out i
      generalize es.getD i Ent.none_ = X at *
      obtain ⟨xu, xs, xk, xv⟩ := X
      simp only at hsu HRN
      have HRD : Hid (Calls Try.prog 73 #[.slice xa c.length xc, .int .i64 ((bl i : Nat) : Int), .string L] wr fun e w' => e = .returned (.tuple #[.agg #[.string xu, .int .i64 xs, .int .i64 xk, .string xv], .int .i64 ((bl (i + 1) : Nat) : Int), .bool true]) ∧ Below wr.heap.size wr w') := Lib.hid hrd
      obtain ⟨cm, hcm⟩ : ∃ cm, (Ent.mk xu xs xk xv).cmp ⟨u, s, k, ⟨#[]⟩⟩ = cm := ⟨_, rfl⟩
      have HCM : Hid (∀ wz, Calls Try.prog 35 #[.agg #[.string xu, .int .i64 xs, .int .i64 xk], .agg #[.string u, .int .i64 s, .int .i64 k]] wz fun e w' => e = .returned (.int .i64 cm) ∧ Below wz.heap.size wz w') := Lib.hid fun wz => by rw [← hcm]; exact cmp_any xu xs xk u s k (by unfold maxLen; omega) (by unfold maxLen; omega) wz
      rw [hcm] at HAT HMO
      clear hcm hrd HRI hie
      by_cases hc0 : 0 ≤ cm
      · have hd : decide (0 ≤ cm) = true := by simpa using hc0
        have HR := Lib.hid (HAT.out (by omega))
        clear HMO HAT HRN
        go_wp2_with (first | (go_at_call 73; (refine HRD.out.mono ?_); rintro e w3 ⟨rfl, hb3⟩; have HB3 : Hid (Below w.heap.size w w3) := Lib.hid (HB.out.1.trans (hb3.mono HB.out.1.size)); have HK3 : Hid (w3.heap[w.heap.size]? = some (.cells #[.string u, .int .i64 s, .int .i64 k] 32 (0, 0))) := Lib.hid ((hb3.block _ (blk_lt HB.out.2.1)).trans HB.out.2.1); have HR3 : Hid (w3.heap[w.heap.size + 1]? = some (.cells #[.string ⟨#[]⟩, .int .i64 0, .int .i64 0, .string ⟨#[]⟩] 34 (0, 0))) := Lib.hid ((hb3.block _ (blk_lt HB.out.2.2)).trans HB.out.2.2); have y0 : w3.cell? ⟨w.heap.size, 0, none⟩ = some (.string u) := blk_cell (i := 0) HK3.out; have y1 : w3.cell? ⟨w.heap.size, 1, none⟩ = some (.int .i64 s) := blk_cell (i := 1) HK3.out; have y2 : w3.cell? ⟨w.heap.size, 2, none⟩ = some (.int .i64 k) := blk_cell (i := 2) HK3.out; have hlt3 := blk_lt HK3.out; have HX3 := Lib.hid (HX.out.below hb3 (Nat.le_refl _)); clear hb3) | (go_at_call 35; (refine (HCM.out _).mono ?_); rintro e w4 ⟨rfl, hb4⟩; have HB4 : Hid (Below w.heap.size w w4) := Lib.hid ((HB3.out.alloc HB3.out.size _).trans (hb4.mono (Nat.le_trans HB3.out.size (by simp)))); have HK4 : Hid (w4.heap[w.heap.size]? = some (.cells #[.string u, .int .i64 s, .int .i64 k] 32 (0, 0))) := Lib.hid ((hb4.block _ (blk_lt (alloc_keep HK3.out))).trans (alloc_keep HK3.out)); have HR4 : Hid (w4.heap[w.heap.size + 1]? = some (.cells #[.string ⟨#[]⟩, .int .i64 0, .int .i64 0, .string ⟨#[]⟩] 34 (0, 0))) := Lib.hid ((hb4.block _ (blk_lt (alloc_keep HR3.out))).trans (alloc_keep HR3.out)); have HX4 : Hid (w4.heap[w3.heap.size]? = some (.cells #[.string xu, .int .i64 xs, .int .i64 xk, .string xv] 34 (0, 0))) := Lib.hid ((hb4.block _ (by simp)).trans (heap_alloc_new w3 _)); have HRX4 := Lib.hid ((HX3.out.below ((Below.refl w3.heap.size _).alloc (Nat.le_refl _) _) (Nat.le_refl _)).below hb4 (by simp)); clear hb4 y0 y1 y2 hlt3; have hrow := HR4.out; have hbox := HX4.out; have s0 := blk_cell (i := 0) hrow; have t0 := blk_free (i := 0) hrow; have s1 := blk_cell (i := 1) hrow; have t1 := blk_free (i := 1) hrow; have s2 := blk_cell (i := 2) hrow; have t2 := blk_free (i := 2) hrow; have s3 := blk_cell (i := 3) hrow; have t3 := blk_free (i := 3) hrow; have x0 := blk_cell (i := 0) hbox; have x1 := blk_cell (i := 1) hbox; have x2 := blk_cell (i := 2) hbox; have x3 := blk_cell (i := 3) hbox; clear hrow hbox))
        refine bodyPost_ret (results_row_tmp rfl _ _ (w.heap.size + 1) 34 #[.string xu, .int .i64 xs, .int .i64 xk, .string xv] (0, 0) _ rfl ?hgE Try.underlying34 rfl (by kernel_rfl)) rfl ?_
        case hgE => exact (set4 HR4.out rfl rfl rfl rfl).1
        rw [HR.out]
        exact ⟨rfl, (set4 HR4.out rfl rfl rfl rfl).2 _ (Nat.le_succ _) _ HB4.out⟩
      · have hd : decide (0 ≤ cm) = false := by simpa using hc0
        have HN := Lib.hid (HMO.out (by omega))
        clear HMO HAT
        go_upto_region 10 with (first | (go_at_call 73; (refine HRD.out.mono ?_); rintro e w3 ⟨rfl, hb3⟩; have HB3 : Hid (Below w.heap.size w w3) := Lib.hid (HB.out.1.trans (hb3.mono HB.out.1.size)); have HK3 : Hid (w3.heap[w.heap.size]? = some (.cells #[.string u, .int .i64 s, .int .i64 k] 32 (0, 0))) := Lib.hid ((hb3.block _ (blk_lt HB.out.2.1)).trans HB.out.2.1); have HR3 : Hid (w3.heap[w.heap.size + 1]? = some (.cells #[.string ⟨#[]⟩, .int .i64 0, .int .i64 0, .string ⟨#[]⟩] 34 (0, 0))) := Lib.hid ((hb3.block _ (blk_lt HB.out.2.2)).trans HB.out.2.2); have y0 : w3.cell? ⟨w.heap.size, 0, none⟩ = some (.string u) := blk_cell (i := 0) HK3.out; have y1 : w3.cell? ⟨w.heap.size, 1, none⟩ = some (.int .i64 s) := blk_cell (i := 1) HK3.out; have y2 : w3.cell? ⟨w.heap.size, 2, none⟩ = some (.int .i64 k) := blk_cell (i := 2) HK3.out; have hlt3 := blk_lt HK3.out; have HX3 := Lib.hid (HX.out.below hb3 (Nat.le_refl _)); clear hb3) | (go_at_call 35; (refine (HCM.out _).mono ?_); rintro e w4 ⟨rfl, hb4⟩; have HB4 : Hid (Below w.heap.size w w4) := Lib.hid ((HB3.out.alloc HB3.out.size _).trans (hb4.mono (Nat.le_trans HB3.out.size (by simp)))); have HK4 : Hid (w4.heap[w.heap.size]? = some (.cells #[.string u, .int .i64 s, .int .i64 k] 32 (0, 0))) := Lib.hid ((hb4.block _ (blk_lt (alloc_keep HK3.out))).trans (alloc_keep HK3.out)); have HR4 : Hid (w4.heap[w.heap.size + 1]? = some (.cells #[.string ⟨#[]⟩, .int .i64 0, .int .i64 0, .string ⟨#[]⟩] 34 (0, 0))) := Lib.hid ((hb4.block _ (blk_lt (alloc_keep HR3.out))).trans (alloc_keep HR3.out)); have HX4 : Hid (w4.heap[w3.heap.size]? = some (.cells #[.string xu, .int .i64 xs, .int .i64 xk, .string xv] 34 (0, 0))) := Lib.hid ((hb4.block _ (by simp)).trans (heap_alloc_new w3 _)); have HRX4 := Lib.hid ((HX3.out.below ((Below.refl w3.heap.size _).alloc (Nat.le_refl _) _) (Nat.le_refl _)).below hb4 (by simp)); clear hb4 y0 y1 y2 hlt3))
        have x0 : w4.cell? ⟨w3.heap.size, 0, none⟩ = some (.string xu) := blk_cell (i := 0) HX4.out
        refine wp_region_plan [(true, 0), (true, 1), (true, 2), (true, 3), (true, 4), (true, 5)] (by kernel_rfl) (by kernel_rfl) (by kernel_rfl) (by kernel_rfl) (by kernel_rfl) ?_
        simp only [planO, List.drop_succ_cons, List.drop_zero]
        refine PlanO.take (v := ?v0) (by kernel_rfl) ?y0 ?r0
        case y0 => (intro wz hz; go_simp; try with_reducible rfl)
        (try simp only [Act.put, List.setIfInBounds_toArray, List.set_cons_zero, List.set_cons_succ])
        refine PlanO.take (v := .pointer (some ⟨w3.heap.size, 0, none⟩)) (by kernel_rfl) ?y1 ?r1
        case y1 => (intro wz hz; go_simp; try with_reducible rfl)
        (try simp only [Act.put, List.setIfInBounds_toArray, List.set_cons_zero, List.set_cons_succ])
        refine PlanO.take (v := .pointer (some ⟨w3.heap.size, 0, none⟩)) (by kernel_rfl) ?y2 ?r2
        case y2 => (intro wz hz; go_simp; try with_reducible rfl)
        (try simp only [Act.put, List.setIfInBounds_toArray, List.set_cons_zero, List.set_cons_succ])
        refine PlanO.take (v := .string xu) (by kernel_rfl) ?y3 ?r3
        case y3 => (intro wz hz; have c0 := Ext.at_ hz x0; go_simp; try with_reducible rfl)
        (try simp only [Act.put, List.setIfInBounds_toArray, List.set_cons_zero, List.set_cons_succ])
        refine PlanO.take (v := ?v4) (by kernel_rfl) ?y4 ?r4
        case y4 => (intro wz hz; go_simp; try with_reducible rfl)
        (try simp only [Act.put, List.setIfInBounds_toArray, List.set_cons_zero, List.set_cons_succ])
        refine PlanO.take (v := ?v5) (by kernel_rfl) ?y5 ?r5
        case y5 => (intro wz hz; go_simp; try with_reducible rfl)
        (try simp only [Act.put, List.setIfInBounds_toArray, List.set_cons_zero, List.set_cons_succ])
        refine PlanO.done (NoPanic.normal ?_)
        go_wp2
        exact ⟨⟨i + 1, xu, by omega, rfl, rfl, hsu, HRN, HN, Lib.hid (HRX4.out.below (Below.refl w4.heap.size _).drew (Nat.le_refl _)), Lib.hid ⟨HB4.out.drew, HK4.out, HR4.out⟩⟩, by simp [intOf]; omega⟩
    · have hie2 : i = es.length := by omega
      have k1 : decide ((bl i : Int) < (c.length : Int)) = false := by simp; omega
      have k1n : decide (bl i < c.length) = false := by simp; omega
      have HR := Lib.hid (above_no (es := es) (u := u) (s := s) (k := k) (fun j hj => HK.out j (by omega)))
      have hrow := HB.out.2.2
      have s0 := blk_cell (i := 0) hrow; have t0 := blk_free (i := 0) hrow; have s1 := blk_cell (i := 1) hrow; have t1 := blk_free (i := 1) hrow; have s2 := blk_cell (i := 2) hrow; have t2 := blk_free (i := 2) hrow; have s3 := blk_cell (i := 3) hrow; have t3 := blk_free (i := 3) hrow
      clear hrow hie2 hie
      go_wp2
      refine bodyPost_ret (results_row_tmp rfl _ _ (w.heap.size + 1) 34 #[.string ⟨#[]⟩, .int .i64 0, .int .i64 0, .string ⟨#[]⟩] (0, 0) _ rfl ?hgE Try.underlying34 rfl (by kernel_rfl)) rfl ?_
      case hgE => exact (set4 HB.out.2.2 rfl rfl rfl rfl).1
      rw [HR.out]
      exact ⟨rfl, (set4 HB.out.2.2 rfl rfl rfl rfl).2 _ (Nat.le_succ _) _ HB.out.1⟩

theorem seek_any12 : SeekC := fun v b u s k hu _ _ w hv hl => by
  cases h : getB b with
  | none =>
    have := seek_no v b u s k w hv hl h
    refine this.mono ?_
    rintro e w' ⟨rfl, hb⟩
    exact ⟨rfl, hb⟩
  | some es => exact seek_yes v b es u s k w hv hl hu (getB_is h)
end Go.Proofs.Yteeikmpfgbfeoaa

/-
  Tables: seek: the first entry of a table that is not below a key: the last frame's rows are halved, then one block is read.
-/
namespace Go.Proofs.Yteeikmpfgbfeoaa
open Go.RowKit

/-- The rows are halved rightly: it is the block that tells what is not below. -/
theorem seek_math {ps : List (List Ent)} (hne : ∀ p ∈ ps, p ≠ []) (hup : Up ps.flatten) (u : ByteArray) (s k : Int) {m : Nat} (hm : m ≤ ps.length) (h1 : 0 < m → (lastE (ps.getD (m - 1) [])).cmp ⟨u, s, k, ⟨#[]⟩⟩ < 0) (h2 : m < ps.length → ¬ (lastE (ps.getD m [])).cmp ⟨u, s, k, ⟨#[]⟩⟩ < 0) :
    aboveL ps.flatten u s k = if m < ps.length then aboveL (ps.getD m []) u s k else none := by
  have hlast : ∀ p : List Ent, p ≠ [] → ∃ q, p = q ++ [lastE p] := fun p hp => by
    refine ⟨p.dropLast, ?_⟩
    have h := List.dropLast_concat_getLast hp
    have e : lastE p = p.getLast hp := by
      have := List.length_pos_iff.2 hp
      unfold lastE
      rw [List.getLast_eq_getElem]
      simp [List.getD, show p.length - 1 < p.length by omega]
    rw [e, h]
  have hsp : ps.flatten = (ps.take m).flatten ++ (ps.drop m).flatten := by rw [← List.flatten_append, List.take_append_drop]
  have hlow : ∀ x ∈ (ps.take m).flatten, x.cmp ⟨u, s, k, ⟨#[]⟩⟩ < 0 := by
    intro x hx
    cases m with
    | zero => simp at hx
    | succ m =>
      have hlt : m < ps.length := hm
      have h1 := h1 (by omega)
      rw [Nat.add_sub_cancel] at h1
      have e : ps.getD m [] = ps[m] := by simp [List.getD, hlt]
      rw [e] at h1
      obtain ⟨q, hq⟩ := hlast ps[m] (hne _ (List.getElem_mem hlt))
      have ht : (ps.take (m + 1)).flatten = ((ps.take m).flatten ++ q) ++ [lastE ps[m]] := by
        rw [List.take_add_one, List.getElem?_eq_getElem hlt, Option.toList_some, List.flatten_append, List.flatten_singleton]
        conv => lhs; rw [hq]
        rw [List.append_assoc]
      have hu : Up ((ps.take (m + 1)).flatten) := hup.sublist (by rw [hsp]; exact List.sublist_append_left _ _)
      rw [ht] at hu hx
      rcases List.mem_append.1 hx with hx | hx
      · exact cmp_trans ((List.pairwise_append.1 hu).2.2 x hx _ (List.mem_singleton_self _)) h1
      · rw [List.mem_singleton.1 hx]; exact h1
  have hnone : (ps.take m).flatten.find? (fun x => !decide (x.cmp ⟨u, s, k, ⟨#[]⟩⟩ < 0)) = none := List.find?_eq_none.2 fun x hx => by
    have := hlow x hx
    simp [this]
  unfold aboveL
  rw [hsp, List.find?_append, hnone, Option.none_or]
  by_cases hlt : m < ps.length
  · rw [if_pos hlt]
    have e : ps.getD m [] = ps[m] := by simp [List.getD, hlt]
    have h2 := h2 hlt
    rw [e] at h2 ⊢
    rw [List.drop_eq_getElem_cons hlt, List.flatten_cons, List.find?_append]
    obtain ⟨q, hq⟩ := hlast ps[m] (hne _ (List.getElem_mem hlt))
    have hs : (ps[m].find? (fun x => !decide (x.cmp ⟨u, s, k, ⟨#[]⟩⟩ < 0))).isSome = true := by
      rw [List.find?_isSome]
      refine ⟨lastE ps[m], ?_, by simp [h2]⟩
      conv => lhs; rw [hq]
      exact List.mem_append_right _ (List.mem_singleton_self _)
    obtain ⟨z, hz⟩ := Option.isSome_iff_exists.1 hs
    rw [hz]
    rfl
  · rw [if_neg hlt, List.drop_of_length_le (by omega)]
    rfl

theorem enters_rows : Enters Try.prog 54 := enters_of Try.func54 (by kernel_rfl) rfl

set_option maxRecDepth 100000 in
set_option maxHeartbeats 400000 in
theorem ask_any {rs : List Rw} {ra : Option Addr} {rc q4 q5 i : Nat} {u : ByteArray} {s k : Int} {w : World} (h4 : w.heap[q4]? = some (.cells #[.slice ra rs.length rc] 60 (0, 0))) (h5 : w.heap[q5]? = some (.cells #[.string u, .int .i64 s, .int .i64 k] 32 (0, 0)))
    (hr : RdR w (.slice ra rs.length rc) rs) (hi : i < rs.length) (hu : u.size ≤ maxLen) (hx : (rs.getD i Rw.none_).u.size ≤ maxLen) :
    Calls Try.prog 54 #[.int .i64 (i : Int), .pointer (some ⟨q4, 0, none⟩), .pointer (some ⟨q5, 0, none⟩)] w fun e w' => e = .returned (.bool (decide (0 ≤ (⟨(rs.getD i Rw.none_).u, (rs.getD i Rw.none_).s, (rs.getD i Rw.none_).k, ⟨#[]⟩⟩ : Ent).cmp ⟨u, s, k, ⟨#[]⟩⟩))) ∧ Below w.heap.size w w' := by
  obtain ⟨hc1, hc2⟩ : rs.length ≤ rc ∧ rc ≤ maxLen := by
    obtain ⟨_, _, he, h3, h4⟩ := hr.form
    cases he
    exact ⟨h3, h4⟩
  unfold maxLen at hc2
  obtain ⟨_, _, hva, hone⟩ := hr.one
  cases hva
  obtain ⟨rb, ro, rfl, hrb, r0, r1, r2, _, _⟩ := hone i hi
  generalize rs.getD i Rw.none_ = X at *
  obtain ⟨xu, xs, xk, xa, xn⟩ := X
  simp only at r0 r1 r2 hx ⊢
  have HCM : Hid (∀ wz, Calls Try.prog 35 #[.agg #[.string xu, .int .i64 xs, .int .i64 xk], .agg #[.string u, .int .i64 s, .int .i64 k]] wz fun e w' => e = .returned (.int .i64 ((⟨xu, xs, xk, ⟨#[]⟩⟩ : Ent).cmp ⟨u, s, k, ⟨#[]⟩⟩)) ∧ Below wz.heap.size wz w') := Lib.hid fun wz => cmp_any xu xs xk u s k hx hu wz
  generalize (⟨xu, xs, xk, ⟨#[]⟩⟩ : Ent).cmp ⟨u, s, k, ⟨#[]⟩⟩ = cm at *
  have HQ4 := Lib.hid (blk_lt h4)
  have HQ5 := Lib.hid (blk_lt h5)
  have HRB := Lib.hid hrb
  have z4 := blk_cell (i := 0) h4
  have k0 := blk_cell (i := 0) h5
  have k1 := blk_cell (i := 1) h5
  have k2 := blk_cell (i := 2) h5
  simp only [List.getElem?_toArray, List.getElem?_cons_zero, List.getElem?_cons_succ] at z4 k0 k1 k2
  have hil : (i : Int) < (rs.length : Int) := by omega
  clear hone h4 h5 hr hrb hu hx
  go_enter Try.func54, Try.ntmps54
  go_upto_region 1 with (fail)
  refine wp_region_two (fun wz => Below w.heap.size w wz) (fun _ => True) [(0, 0), (0, 1), (0, 2), (0, 3), (0, 4), (0, 5), (2, 6), (0, 7), (0, 8)] [] (by kernel_rfl) (by kernel_rfl) (by kernel_rfl) (by kernel_rfl) (by kernel_rfl) (Below.refl _ _).drew trivial ?_
  simp only [planT, List.drop_succ_cons, List.drop_zero]
  refine PlanT.take0 (v := ?vL0) (by kernel_rfl) ?yL0 ?rL0
  case yL0 => (intro wz hz; have y0 := (hz.cell (p := ⟨q4, 0, none⟩) HQ4.out).trans z4; go_simp; try with_reducible rfl)
  (try simp only [Act.put, List.setIfInBounds_toArray, List.set_cons_zero, List.set_cons_succ])
  refine PlanT.take0 (v := ?vL1) (by kernel_rfl) ?yL1 ?rL1
  case yL1 => (intro wz hz; go_simp; try with_reducible rfl)
  (try simp only [Act.put, List.setIfInBounds_toArray, List.set_cons_zero, List.set_cons_succ])
  refine PlanT.take0 (v := ?vL2) (by kernel_rfl) ?yL2 ?rL2
  case yL2 => (intro wz hz; go_simp; try with_reducible rfl)
  (try simp only [Act.put, List.setIfInBounds_toArray, List.set_cons_zero, List.set_cons_succ])
  refine PlanT.take0 (v := ?vL3) (by kernel_rfl) ?yL3 ?rL3
  case yL3 => (intro wz hz; go_simp; try with_reducible rfl)
  (try simp only [Act.put, List.setIfInBounds_toArray, List.set_cons_zero, List.set_cons_succ])
  refine PlanT.take0 (v := ?vL4) (by kernel_rfl) ?yL4 ?rL4
  case yL4 => (intro wz hz; have y0 := (hz.cell (p := ⟨rb, ro + i * 5, none⟩) HRB.out).trans r0; have y1 := (hz.cell (p := ⟨rb, ro + i * 5 + 1, none⟩) HRB.out).trans r1; have y2 := (hz.cell (p := ⟨rb, ro + i * 5 + 2, none⟩) HRB.out).trans r2; go_simp; try with_reducible rfl)
  (try simp only [Act.put, List.setIfInBounds_toArray, List.set_cons_zero, List.set_cons_succ])
  refine PlanT.take0 (v := ?vL5) (by kernel_rfl) ?yL5 ?rL5
  case yL5 => (intro wz hz; have y0 := (hz.cell (p := ⟨q5, 0, none⟩) HQ5.out).trans k0; have y1 := (hz.cell (p := ⟨q5, 1, none⟩) HQ5.out).trans k1; have y2 := (hz.cell (p := ⟨q5, 2, none⟩) HQ5.out).trans k2; go_simp; try with_reducible rfl)
  (try simp only [Act.put, List.setIfInBounds_toArray, List.set_cons_zero, List.set_cons_succ])
  refine PlanT.exec2 (fun K hK => ⟨by kernel_rfl, ?_⟩)
  go_simp
  refine (HCM.out _).mono ?_
  rintro e u3 ⟨rfl, hb3⟩
  have HB3 : Hid (Below w.heap.size w u3) := Lib.hid ((show Below w.heap.size w w.drew from (Below.refl _ _).drew).trans (hb3.mono (by simp)))
  clear hb3
  refine hK.out _ _ HB3.out trivial ?_
  clear hK K
  (try simp only [Act.put, List.setIfInBounds_toArray, List.set_cons_zero, List.set_cons_succ])
  refine PlanT.take0 (v := .bool (decide (0 ≤ cm))) (by kernel_rfl) ?yL7 ?rL7
  case yL7 => (intro wz hz; go_simp; try with_reducible rfl)
  (try simp only [Act.put, List.setIfInBounds_toArray, List.set_cons_zero, List.set_cons_succ])
  refine PlanT.take0 (v := ?vL8) (by kernel_rfl) ?yL8 ?rL8
  case yL8 => (intro wz hz; go_simp; try with_reducible rfl)
  (try simp only [Act.put, List.setIfInBounds_toArray, List.set_cons_zero, List.set_cons_succ])
  refine PlanT.done (NoPanic.normal ?_)
  go_wp2
  go_ret
  exact ⟨rfl, HB3.out⟩

theorem rowsQ_at {ps : List (List Ent)} {m : Nat} (h : m < ps.length) : (rowsQ ps).getD m Rw.none_ = rowP (ps.getD m []) (tabQ (ps.take m)).length := by
  unfold rowsQ
  simp [List.getD, h]
theorem Seen.block {b : List UInt8} {ps : List (List Ent)} (h : Seen b ps) {m : Nat} (hm : m < ps.length) : frOk b (tabQ (ps.take m)).length = true ∧ frP b (tabQ (ps.take m)).length = blockL (ps.getD m []) ∧ putErr (ps.getD m []) = 0 := by
  have e : ps.getD m [] = ps[m] := by simp [List.getD, hm]
  have hpe := h.ok _ (List.getElem_mem hm)
  have hb : b = tabQ (ps.take m) ++ (frRaw (blockL ps[m]) ++ (tabQ (ps.drop (m + 1)) ++ b.drop (tabQ ps).length)) := by
    have h1 : tabQ ps = tabQ (ps.take m) ++ (frRaw (blockL ps[m]) ++ tabQ (ps.drop (m + 1))) := by
      conv => lhs; rw [← List.take_append_drop m ps, List.drop_eq_getElem_cons hm]
      unfold tabQ
      rw [List.flatMap_append, List.flatMap_cons]
    have h2 := List.take_append_drop (tabQ ps).length b
    rw [h.bytes] at h2
    conv => lhs; rw [← h2]
    conv => lhs; lhs; rw [h1]
    simp only [List.append_assoc]
  have hl := (blk_len hpe).1
  have f1 := frame_there (tabQ (ps.take m)) (blockL ps[m]) (tabQ (ps.drop (m + 1)) ++ b.drop (tabQ ps).length) (by omega)
  have f2 := frame_parts (tabQ (ps.take m)) (blockL ps[m]) (tabQ (ps.drop (m + 1)) ++ b.drop (tabQ ps).length) (by omega)
  rw [← hb] at f1 f2
  rw [e]
  exact ⟨f1, f2.2.2, hpe⟩

set_option maxRecDepth 100000 in
set_option maxHeartbeats 600000 in
theorem seekt_any {v rv : Value} {b : List UInt8} {ps : List (List Ent)} {u : ByteArray} {s k : Int} {w : World} (hv : RdB w v b) (hl : b.length ≤ 1000000) (hr : RdR w rv (rowsQ ps)) (hs : Seen b ps) (hup : risingB ps.flatten = true) (hu : u.size ≤ 1000) :
    Calls Try.prog 31 #[v, rv, .agg #[.string u, .int .i64 s, .int .i64 k]] w fun e w' => e = .returned (ansN (aboveL ps.flatten u s k)) ∧ Below w.heap.size w w' := by
  have HV := Lib.hid hv
  have HRR := Lib.hid hr
  obtain ⟨ra, rc, rfl, hc1, hc2⟩ := hr.form
  unfold maxLen at hc2
  have HM := Lib.hid (fun (m : Nat) (hm : m ≤ ps.length) h1 h2 => seek_math (fun p hp => (putErr_ok (hs.ok p hp)).2.1) (up_of_rising hup) u s k hm h1 h2)
  have HBK := Lib.hid (fun (m : Nat) (hm : m < ps.length) => hs.block hm)
  have HAT := Lib.hid (fun (m : Nat) (hm : m < ps.length) => rowsQ_at (ps := ps) hm)
  have hlen := rowsQ_len ps
  have hfew := hs.len
  have HTL : Hid (∀ m, m < ps.length → (tabQ (ps.take m)).length ≤ 25602048) := Lib.hid fun m hm => by
    have := tabQ_len (ps := ps.take m) fun p hp => hs.ok p (List.mem_of_mem_take hp)
    rw [List.length_take] at this
    omega
  have hb3 : ∀ o1 o2 o3 : Obj, Below w.heap.size w (((w.alloc o1).alloc o2).alloc o3) := fun o1 o2 o3 => (((Below.refl _ w).alloc (Nat.le_refl _) o1).alloc (by simp) o2).alloc (by simp; omega) o3
  have HB3 := Lib.hid hb3
  obtain ⟨w3, hw3⟩ : ∃ w3, w3 = (((w.alloc (.cells #[.slice ra (rowsQ ps).length rc] 60)).alloc (.cells #[.string u, .int .i64 s, .int .i64 k] 32)).alloc (.cells #[.string ⟨#[]⟩, .int .i64 0, .int .i64 0, .string ⟨#[]⟩] 34)) := ⟨_, rfl⟩
  have q4 : w3.heap[w.heap.size]? = some (.cells #[.slice ra (rowsQ ps).length rc] 60 (0, 0)) := by rw [hw3]; exact alloc_keep (alloc_keep (heap_alloc_new w _))
  have q5 : w3.heap[w.heap.size + 1]? = some (.cells #[.string u, .int .i64 s, .int .i64 k] 32 (0, 0)) := by rw [hw3]; exact alloc_keep (heap_new2 w _ _)
  have q6 : w3.heap[w.heap.size + 1 + 1]? = some (.cells #[.string ⟨#[]⟩, .int .i64 0, .int .i64 0, .string ⟨#[]⟩] 34 (0, 0)) := by rw [hw3]; exact heap_new3 w _ _ _
  have hbw : Below w.heap.size w w3 := by rw [hw3]; exact hb3 _ _ _
  have HSE := Lib.hid (search_any (rowsQ ps).length (by omega) (fun i => decide (0 ≤ (⟨((rowsQ ps).getD i Rw.none_).u, ((rowsQ ps).getD i Rw.none_).s, ((rowsQ ps).getD i Rw.none_).k, ⟨#[]⟩⟩ : Ent).cmp ⟨u, s, k, ⟨#[]⟩⟩)) 54 #[.pointer (some ⟨w.heap.size, 0, none⟩), .pointer (some ⟨w.heap.size + 1, 0, none⟩)] enters_rows w3 fun i wz hi hz =>
    ask_any ((hz.block _ (blk_lt q4)).trans q4) ((hz.block _ (blk_lt q5)).trans q5) ((hr.below hbw (Nat.le_refl _)).below hz (Nat.le_refl _)) hi (by unfold maxLen; omega) (by
      rw [hlen] at hi
      rw [HAT.out i hi]
      have h1 := (rowP_ok (HBK.out i hi).2.2 (at_ := 0) (by omega)).u
      unfold maxLen
      exact Nat.le_trans h1 (by omega)))
  have HQ := Lib.hid (And.intro q4 (And.intro q5 (And.intro q6 hbw)))
  have HW3 := Lib.hid hw3
  have z4 := blk_cell (i := 0) q4
  simp only [List.getElem?_toArray, List.getElem?_cons_zero] at z4
  have HLEN := Lib.hid hlen
  have hN : (rowsQ ps).length ≤ 256 := by omega
  clear hv hr hs hup hb3 q4 q5 q6 hbw hlen hfew
  rw [hw3] at z4
  clear hw3
  go_enter Try.func31, Try.ntmps31
  go_upto_region 2 with (go_at_call 53; rw [← HW3.out]; (refine HSE.out.mono ?_); rintro e w4 ⟨m, hm, rfl, hp1, hp2, hb4⟩; have HP := Lib.hid (And.intro hp1 hp2); have q44 := (hb4.block _ (blk_lt HQ.out.1)).trans HQ.out.1; have y4 := blk_cell (i := 0) q44; have HB4 := Lib.hid hb4; clear hp1 hp2 hb4 q44)
  have q64 := (HB4.out.block _ (blk_lt HQ.out.2.2.1)).trans HQ.out.2.2.1
  have q54 := (HB4.out.block _ (blk_lt HQ.out.2.1)).trans HQ.out.2.1
  have HBW : Hid (Below w.heap.size w w4) := Lib.hid (HQ.out.2.2.2.trans (HB4.out.mono HQ.out.2.2.2.size))
  have hml : m ≤ ps.length := by have := HLEN.out; omega
  have hrow : ∀ i, i < ps.length → (⟨((rowsQ ps).getD i Rw.none_).u, ((rowsQ ps).getD i Rw.none_).s, ((rowsQ ps).getD i Rw.none_).k, ⟨#[]⟩⟩ : Ent).cmp ⟨u, s, k, ⟨#[]⟩⟩ = (lastE (ps.getD i [])).cmp ⟨u, s, k, ⟨#[]⟩⟩ := fun i hi => by rw [HAT.out i hi]; rfl
  have hans := HM.out m hml (fun h0 => by
    have h := HP.out.1 h0
    simp only [hrow (m - 1) (by omega)] at h
    simpa using h) (fun h0 => by
    have h := HP.out.2 (by have := HLEN.out; omega)
    simp only [hrow m h0] at h
    simpa using h)
  clear hrow
  have s0 := blk_cell (i := 0) q64; have t0 := blk_free (i := 0) q64; have s1 := blk_cell (i := 1) q64; have t1 := blk_free (i := 1) q64; have s2 := blk_cell (i := 2) q64; have t2 := blk_free (i := 2) q64; have s3 := blk_cell (i := 3) q64; have t3 := blk_free (i := 3) q64
  simp only [List.getElem?_toArray, List.getElem?_cons_zero, List.getElem?_cons_succ] at y4 s0 s1 s2 s3
  have HQ6 := Lib.hid q64
  by_cases hlt : m < ps.length
  · have d1 : ((m : Int) == ((rowsQ ps).length : Int)) = false := by
      have := HLEN.out
      have : (m : Int) ≠ ((rowsQ ps).length : Int) := by omega
      simpa using this
    have d2 : (m : Int) < ((rowsQ ps).length : Int) := by have := HLEN.out; omega
    have d3 : m < (rowsQ ps).length := by omega
    have d4 : ¬ m = (rowsQ ps).length := by omega
    rw [if_pos hlt] at hans
    obtain ⟨hf, hfp, hpe⟩ := HBK.out m hlt
    obtain ⟨_, _, hva, hone⟩ := ((HRR.out.below HQ.out.2.2.2 (Nat.le_refl _)).below HB4.out (Nat.le_refl _)).one
    cases hva
    obtain ⟨rb, ro, rfl, hrb, _, _, _, r3, _⟩ := hone m d3
    rw [HAT.out m hlt] at r3
    have r3 : w4.cell? ⟨rb, ro + m * 5 + 3, none⟩ = some (.int .i64 ((tabQ (ps.take m)).length : Int)) := r3
    have hta := HTL.out m hlt
    have HG : Hid (∀ wz, Below w.heap.size w wz → Calls Try.prog 51 #[v, .int .i64 ((tabQ (ps.take m)).length : Int)] wz fun e w' => ∃ (y : Value) (n : Int), e = .returned (.tuple #[y, .int .i64 n, .bool true]) ∧ RdB w' y (blockL (ps.getD m [])) ∧ Below wz.heap.size wz w') := Lib.hid fun wz hz => by
      refine (fget_any wz v b _ (HV.out.below hz (Nat.le_refl _)) (by omega) (by omega)).mono ?_
      rintro e w' (⟨hno, _, _⟩ | ⟨p, hp, _, y, rfl, ho, hb⟩)
      · have := hno _ rfl
        rw [hf] at this
        cases this
      · obtain rfl : p = (tabQ (ps.take m)).length := by omega
        rw [hfp] at ho
        exact ⟨y, _, rfl, ho.read, hb⟩
    have HSK : Hid (∀ y wz, RdB wz y (blockL (ps.getD m [])) → Calls Try.prog 55 #[y, .agg #[.string u, .int .i64 s, .int .i64 k]] wz fun e w' => e = .returned (ansN (aboveL (ps.getD m []) u s k)) ∧ Below wz.heap.size wz w') := Lib.hid fun y wz hy => seek_yes y _ _ u s k wz hy (by have := (blk_len hpe).1; omega) hu ⟨hpe, rfl⟩
    obtain ⟨xu, xs, xk, xv, ok, hn⟩ := ansN_form (aboveL (ps.getD m []) u s k)
    rw [hn] at HSK
    have HANS : Hid (ansN (aboveL ps.flatten u s k) = .tuple #[.agg #[.string xu, .int .i64 xs, .int .i64 xk, .string xv], .bool ok]) := Lib.hid (by rw [hans, hn])
    clear hans
    generalize (tabQ (ps.take m)).length = at_ at *
    have HQ5 := Lib.hid q54
    clear hn hone hf hfp hpe q54 q64
    go_wp2_with (first | (go_at_call 51; (refine (HG.out _ HBW.out).mono ?_); rintro e w5 ⟨y5, n5, rfl, hy5, hb5⟩; have HY5 := Lib.hid hy5; have HB5 : Hid (Below w.heap.size w w5) := Lib.hid (HBW.out.trans (hb5.mono HBW.out.size)); have q55 := (hb5.block _ (blk_lt HQ5.out)).trans HQ5.out; have k0 := blk_cell (i := 0) q55; have k1 := blk_cell (i := 1) q55; have k2 := blk_cell (i := 2) q55; have HQ65 := Lib.hid ((hb5.block _ (blk_lt HQ6.out)).trans HQ6.out); clear hy5 hb5 q55) | (go_at_call 55; (refine (HSK.out _ _ HY5.out).mono ?_); rintro e w6 ⟨rfl, hb6⟩; have HB6 : Hid (Below w.heap.size w w6) := Lib.hid (HB5.out.trans (hb6.mono HB5.out.size)); have hr6 := (hb6.block _ (blk_lt HQ65.out)).trans HQ65.out; have s0 := blk_cell (i := 0) hr6; have t0 := blk_free (i := 0) hr6; have s1 := blk_cell (i := 1) hr6; have t1 := blk_free (i := 1) hr6; have s2 := blk_cell (i := 2) hr6; have t2 := blk_free (i := 2) hr6; have s3 := blk_cell (i := 3) hr6; have t3 := blk_free (i := 3) hr6; have HR6 := Lib.hid hr6; clear hb6 hr6))
    refine bodyPost_ret (results_row_tmp rfl _ _ (w.heap.size + 1 + 1) 34 #[.string xu, .int .i64 xs, .int .i64 xk, .string xv] (0, 0) _ rfl ?hgA Try.underlying34 rfl (by kernel_rfl)) rfl ?_
    case hgA => exact (set4 HR6.out rfl rfl rfl rfl).1
    exact ⟨by rw [HANS.out]; rfl, (set4 HR6.out rfl rfl rfl rfl).2 _ (by omega) _ HB6.out⟩
  · have hme : m = ps.length := by omega
    have d1 : ((m : Int) == ((rowsQ ps).length : Int)) = true := by
      have := HLEN.out
      have : (m : Int) = ((rowsQ ps).length : Int) := by omega
      simpa using this
    rw [if_neg hlt] at hans
    have HANS := Lib.hid hans
    clear hans
    clear hme hlt hml q64 q54
    go_wp2
    refine bodyPost_ret (results_row_tmp rfl _ _ (w.heap.size + 1 + 1) 34 #[.string ⟨#[]⟩, .int .i64 0, .int .i64 0, .string ⟨#[]⟩] (0, 0) _ rfl ?hgB Try.underlying34 rfl (by kernel_rfl)) rfl ?_
    case hgB => exact (set4 HQ6.out rfl rfl rfl rfl).1
    exact ⟨by rw [HANS.out]; rfl, (set4 HQ6.out rfl rfl rfl rfl).2 _ (by omega) _ HBW.out⟩
end Go.Proofs.Yteeikmpfgbfeoaa

/-
  Tables: Find: the newest entry of a User up to a number.
-/
namespace Go.Proofs.Yteeikmpfgbfeoaa
open Go.RowKit

theorem below_new {w a : World} {o : Obj} (h : Below w.heap.size w a) : Below w.heap.size w (a.alloc o) := h.alloc h.size o
theorem find_drop {α : Type} (p : α → Bool) : ∀ l : List α, l.find? (fun x => !p x) = (l.dropWhile p).head?
  | [] => rfl
  | a :: l => by
    rw [List.find?_cons, List.dropWhile_cons]
    cases h : p a with
    | false => simp
    | true => simpa using find_drop p l
theorem newest_above {es : List Ent} (hr : risingB es = true) (u : ByteArray) (s : Int) : newest es u s = (match aboveL es u s 2 with | none => none | some x => if x.u = u then some x else none) := by
  rw [newest_high (up_of_rising hr) fun x hx => by have := (may_facts (rising_all hr x hx)).2.2.2.1; omega]
  have e : aboveL es u s 2 = (highE ⟨u, s, 2, ⟨#[]⟩⟩ es).head? := find_drop _ es
  rw [e]
  cases highE ⟨u, s, 2, ⟨#[]⟩⟩ es with
  | nil => rfl
  | cons x r => rfl

set_option maxRecDepth 100000 in
set_option maxHeartbeats 600000 in
theorem find_any : FindTC := fun v b u s w hv hl hu _ => by
  have hbe1 := (Below.refl w.heap.size w).alloc (Nat.le_refl _) (.cells #[.string ⟨#[]⟩, .int .i64 0, .int .i64 0, .string ⟨#[]⟩] 34)
  have HBE1 := Lib.hid hbe1
  have HV := Lib.hid hv
  clear hbe1
  cases hg : getT b with
  | none =>
    have HR := Lib.hid (show findT b u s = none by unfold findT; rw [hg])
    have HO : Hid (∀ wz, Below w.heap.size w wz → Calls Try.prog 29 #[v] wz fun e w' => e = .returned (.tuple #[.agg #[.int .i64 0, .slice none 0 0, .slice none 0 0, .slice none 0 0], .bool false]) ∧ Below wz.heap.size wz w') := Lib.hid fun wz hz => by
      have h := open_any v b wz (HV.out.below hz (Nat.le_refl _)) hl
      unfold RetOpen at h
      rw [hg] at h
      exact h
    clear hg hv
    go_enter Try.func15, Try.ntmps15
    go_wp2_with (go_at_call 29; (refine (HO.out _ HBE1.out).mono ?_); rintro e w1 ⟨rfl, hb1⟩; have HB1 : Hid (Below w.heap.size w w1) := Lib.hid (HBE1.out.trans (hb1.mono (by simp))); have hrow := (hb1.block _ (by simp)).trans (heap_alloc_new w (.cells #[.string ⟨#[]⟩, .int .i64 0, .int .i64 0, .string ⟨#[]⟩] 34)); have s0 := blk_cell (i := 0) hrow; have t0 := blk_free (i := 0) hrow; have s1 := blk_cell (i := 1) hrow; have t1 := blk_free (i := 1) hrow; have s2 := blk_cell (i := 2) hrow; have t2 := blk_free (i := 2) hrow; have s3 := blk_cell (i := 3) hrow; have t3 := blk_free (i := 3) hrow; simp only [List.getElem?_toArray, List.getElem?_cons_zero, List.getElem?_cons_succ] at s0 s1 s2 s3; have hsz := blk_lt hrow; have HROW := Lib.hid hrow; clear hrow; clear hb1)
    refine bodyPost_ret (results_row_tmp2 rfl _ _ w.heap.size 34 #[.string ⟨#[]⟩, .int .i64 0, .int .i64 0, .string ⟨#[]⟩] (0, 0) _ rfl ?hgA Try.underlying34 rfl (by kernel_rfl)) rfl ?_
    case hgA => exact alloc_keep (set4 HROW.out rfl rfl rfl rfl).1
    exact ⟨by rw [HR.out]; rfl, below_new ((set4 HROW.out rfl rfl rfl rfl).2 _ (Nat.le_refl _) _ (HB1.out))⟩
  | some x =>
    obtain ⟨es, f⟩ := x
    have HGR : Hid (risingB es = true ∧ f.length ≤ 1000000) := Lib.hid (by
      obtain ⟨per, h⟩ := getT_is hg
      have h1 := IsTabP.filter_len (show IsTabP b es per f from h)
      exact ⟨h.2.2.1.1, by omega⟩)
    have HO : Hid (∀ wz, Below w.heap.size w wz → Calls Try.prog 29 #[v] wz fun e w' => ∃ (ps : List (List Ent)) (per : Nat) (ve vr vf : Value), e = .returned (.tuple #[.agg #[.int .i64 (per : Int), ve, vr, vf], .bool true]) ∧ OwnE w' wz.heap.size ve es ∧ OwnR w' wz.heap.size vr (rowsQ ps) ∧ OwnB w' wz.heap.size 5 vf f ∧ Seen b ps ∧ ps.flatten = es ∧ Below wz.heap.size wz w') := Lib.hid fun wz hz => by
      have h := open_any v b wz (HV.out.below hz (Nat.le_refl _)) hl
      unfold RetOpen at h
      rw [hg] at h
      refine h.mono ?_
      rintro e w' ⟨ps, per, ve, vr, vf, rfl, h1, h2, h3, h4, h5, _, h6⟩
      exact ⟨ps, per, ve, vr, vf, rfl, h1, h2, h3, h4, h5, h6⟩
    cases hm : mayL f (hashL u.data.toList) with
    | false =>
      have HR := Lib.hid (show findT b u s = some none by unfold findT; rw [hg]; simp only; rw [hm]; rfl)
      have HM : Hid (∀ y wz, RdB wz y f → Calls Try.prog 30 #[y, .string u] wz fun e w' => e = .returned (.bool false) ∧ Below wz.heap.size wz w') := Lib.hid fun y wz hy => by
        have h := fmay_any y f u (by unfold maxLen; omega) wz hy HGR.out.2
        rw [hm] at h
        exact h
      clear hg hm hv
      go_enter Try.func15, Try.ntmps15
      go_wp2_with (first | (go_at_call 29; (refine (HO.out _ HBE1.out).mono ?_); rintro e w1 ⟨ps, per, ve, vr, vf, rfl, ho1, hr1, hf1, hs1, hfl1, hb1⟩; (obtain ⟨ea, ec, hve, _, _⟩ := ho1.form); subst hve; (obtain ⟨ra, rc, hvr, _, _⟩ := hr1.form); subst hvr; (obtain ⟨fa, fc, hvf, _, _⟩ := hf1.read.form); subst hvf; have HB1 : Hid (Below w.heap.size w w1) := Lib.hid (HBE1.out.trans (hb1.mono (by simp))); have HP1 := Lib.hid ((hb1.block _ (by simp)).trans (heap_alloc_new w (.cells #[.string ⟨#[]⟩, .int .i64 0, .int .i64 0, .string ⟨#[]⟩] 34))); have HS1 := Lib.hid hs1; have HFL := Lib.hid hfl1; have hba : Below w1.heap.size w1 (w1.alloc (.cells #[.int .i64 (per : Int), .slice ea es.length ec, .slice ra (rowsQ ps).length rc, .slice fa f.length fc] 74)) := (Below.refl _ _).alloc (Nat.le_refl _) _; have HB2 : Hid (Below w.heap.size w (w1.alloc (.cells #[.int .i64 (per : Int), .slice ea es.length ec, .slice ra (rowsQ ps).length rc, .slice fa f.length fc] 74))) := Lib.hid (HB1.out.trans (hba.mono HB1.out.size)); have HR2 := Lib.hid (RdR.below hr1.read hba (Nat.le_refl _)); have HF2 := Lib.hid (RdB.below hf1.read hba (Nat.le_refl _)); have HQ2 := Lib.hid (heap_alloc_new w1 (.cells #[.int .i64 (per : Int), .slice ea es.length ec, .slice ra (rowsQ ps).length rc, .slice fa f.length fc] 74)); have HP2 := Lib.hid ((hba.block _ (blk_lt HP1.out)).trans HP1.out); clear ho1 hr1 hf1 hb1 hs1 hfl1 hba) | (go_at_call 30; (refine (HM.out _ _ HF2.out).mono ?_); rintro e w3 ⟨rfl, hb3⟩; have HB3 : Hid (Below w.heap.size w w3) := Lib.hid (HB2.out.trans (hb3.mono HB2.out.size)); have hrow := (hb3.block _ (blk_lt HP2.out)).trans HP2.out; have s0 := blk_cell (i := 0) hrow; have t0 := blk_free (i := 0) hrow; have s1 := blk_cell (i := 1) hrow; have t1 := blk_free (i := 1) hrow; have s2 := blk_cell (i := 2) hrow; have t2 := blk_free (i := 2) hrow; have s3 := blk_cell (i := 3) hrow; have t3 := blk_free (i := 3) hrow; simp only [List.getElem?_toArray, List.getElem?_cons_zero, List.getElem?_cons_succ] at s0 s1 s2 s3; have hsz := blk_lt hrow; have HROW := Lib.hid hrow; clear hrow; clear hb3))
      refine bodyPost_ret (results_row_tmp2 rfl _ _ w.heap.size 34 #[.string ⟨#[]⟩, .int .i64 0, .int .i64 0, .string ⟨#[]⟩] (0, 0) _ rfl ?hgB Try.underlying34 rfl (by kernel_rfl)) rfl ?_
      case hgB => exact (set4 HROW.out rfl rfl rfl rfl).1
      exact ⟨by rw [HR.out]; rfl, (set4 HROW.out rfl rfl rfl rfl).2 _ (Nat.le_refl _) _ (HB3.out)⟩
    | true =>
      have HM : Hid (∀ y wz, RdB wz y f → Calls Try.prog 30 #[y, .string u] wz fun e w' => e = .returned (.bool true) ∧ Below wz.heap.size wz w') := Lib.hid fun y wz hy => by
        have h := fmay_any y f u (by unfold maxLen; omega) wz hy HGR.out.2
        rw [hm] at h
        exact h
      have HNA := Lib.hid (newest_above HGR.out.1 u s)
      have HSK0 : ∀ (rv : Value) (ps : List (List Ent)) wz, Below w.heap.size w wz → Seen b ps → ps.flatten = es → RdR wz rv (rowsQ ps) → Calls Try.prog 31 #[v, rv, .agg #[.string u, .int .i64 s, .int .i64 2]] wz fun e w' => e = .returned (ansN (aboveL es u s 2)) ∧ Below wz.heap.size wz w' := fun rv ps wz hz hs he hr => by
        have h := seekt_any (s := s) (k := 2) (HV.out.below hz (Nat.le_refl _)) hl hr hs (by rw [he]; exact HGR.out.1) hu
        rw [he] at h
        exact h
      cases ha : aboveL es u s 2 with
      | none =>
        have HR := Lib.hid (show findT b u s = some none by unfold findT; rw [hg]; simp only; rw [hm, HNA.out, ha]; rfl)
        rw [ha] at HSK0
        have HSK : Hid (∀ (rv : Value) (ps : List (List Ent)) wz, Below w.heap.size w wz → Seen b ps → ps.flatten = es → RdR wz rv (rowsQ ps) → Calls Try.prog 31 #[v, rv, .agg #[.string u, .int .i64 s, .int .i64 2]] wz fun e w' => e = .returned (.tuple #[.agg #[.string ⟨#[]⟩, .int .i64 0, .int .i64 0, .string ⟨#[]⟩], .bool false]) ∧ Below wz.heap.size wz w') := Lib.hid HSK0
        clear hg hm hv ha HSK0 HNA
        go_enter Try.func15, Try.ntmps15
        go_wp2_with (first | (go_at_call 29; (refine (HO.out _ HBE1.out).mono ?_); rintro e w1 ⟨ps, per, ve, vr, vf, rfl, ho1, hr1, hf1, hs1, hfl1, hb1⟩; (obtain ⟨ea, ec, hve, _, _⟩ := ho1.form); subst hve; (obtain ⟨ra, rc, hvr, _, _⟩ := hr1.form); subst hvr; (obtain ⟨fa, fc, hvf, _, _⟩ := hf1.read.form); subst hvf; have HB1 : Hid (Below w.heap.size w w1) := Lib.hid (HBE1.out.trans (hb1.mono (by simp))); have HP1 := Lib.hid ((hb1.block _ (by simp)).trans (heap_alloc_new w (.cells #[.string ⟨#[]⟩, .int .i64 0, .int .i64 0, .string ⟨#[]⟩] 34))); have HS1 := Lib.hid hs1; have HFL := Lib.hid hfl1; have hba : Below w1.heap.size w1 (w1.alloc (.cells #[.int .i64 (per : Int), .slice ea es.length ec, .slice ra (rowsQ ps).length rc, .slice fa f.length fc] 74)) := (Below.refl _ _).alloc (Nat.le_refl _) _; have HB2 : Hid (Below w.heap.size w (w1.alloc (.cells #[.int .i64 (per : Int), .slice ea es.length ec, .slice ra (rowsQ ps).length rc, .slice fa f.length fc] 74))) := Lib.hid (HB1.out.trans (hba.mono HB1.out.size)); have HR2 := Lib.hid (RdR.below hr1.read hba (Nat.le_refl _)); have HF2 := Lib.hid (RdB.below hf1.read hba (Nat.le_refl _)); have HQ2 := Lib.hid (heap_alloc_new w1 (.cells #[.int .i64 (per : Int), .slice ea es.length ec, .slice ra (rowsQ ps).length rc, .slice fa f.length fc] 74)); have HP2 := Lib.hid ((hba.block _ (blk_lt HP1.out)).trans HP1.out); clear ho1 hr1 hf1 hb1 hs1 hfl1 hba) | (go_at_call 30; (refine (HM.out _ _ HF2.out).mono ?_); rintro e w3 ⟨rfl, hb3⟩; have HB3 : Hid (Below w.heap.size w w3) := Lib.hid (HB2.out.trans (hb3.mono HB2.out.size)); have HR3 := Lib.hid (HR2.out.below hb3 (Nat.le_refl _)); have HQ3 := Lib.hid ((hb3.block _ (blk_lt HQ2.out)).trans HQ2.out); have HP3 := Lib.hid ((hb3.block _ (blk_lt HP2.out)).trans HP2.out); have c2 := blk_cell (i := 2) HQ3.out; simp only [List.getElem?_toArray, List.getElem?_cons_zero, List.getElem?_cons_succ] at c2; clear hb3) | (go_at_call 31; (refine (HSK.out _ _ _ HB3.out HS1.out HFL.out HR3.out).mono ?_); rintro e w4 ⟨rfl, hb4⟩; have HB4 : Hid (Below w.heap.size w w4) := Lib.hid (HB3.out.trans (hb4.mono HB3.out.size)); have hba4 : Below w4.heap.size w4 (w4.alloc (.cells #[.string ⟨#[]⟩, .int .i64 0, .int .i64 0, .string ⟨#[]⟩] 34)) := (Below.refl _ _).alloc (Nat.le_refl _) _; have hrow := (hb4.block _ (blk_lt HP3.out)).trans HP3.out; have s0 := blk_cell (i := 0) hrow; have t0 := blk_free (i := 0) hrow; have s1 := blk_cell (i := 1) hrow; have t1 := blk_free (i := 1) hrow; have s2 := blk_cell (i := 2) hrow; have t2 := blk_free (i := 2) hrow; have s3 := blk_cell (i := 3) hrow; have t3 := blk_free (i := 3) hrow; simp only [List.getElem?_toArray, List.getElem?_cons_zero, List.getElem?_cons_succ] at s0 s1 s2 s3; have hsz := blk_lt hrow; have HROW := Lib.hid hrow; clear hrow; have HB5 := Lib.hid (HB4.out.trans (hba4.mono HB4.out.size)); clear hb4 hba4))
        refine bodyPost_ret (results_row_tmp2 rfl _ _ w.heap.size 34 #[.string ⟨#[]⟩, .int .i64 0, .int .i64 0, .string ⟨#[]⟩] (0, 0) _ rfl ?hgC Try.underlying34 rfl (by kernel_rfl)) rfl ?_
        case hgC => exact alloc_keep (set4 HROW.out rfl rfl rfl rfl).1
        exact ⟨by rw [HR.out]; rfl, below_new ((set4 HROW.out rfl rfl rfl rfl).2 _ (Nat.le_refl _) _ (HB4.out))⟩
      | some e =>
        rw [ha] at HSK0
        obtain ⟨xu, xs, xk, xv⟩ := e
        have HSK : Hid (∀ (rv : Value) (ps : List (List Ent)) wz, Below w.heap.size w wz → Seen b ps → ps.flatten = es → RdR wz rv (rowsQ ps) → Calls Try.prog 31 #[v, rv, .agg #[.string u, .int .i64 s, .int .i64 2]] wz fun e w' => e = .returned (.tuple #[.agg #[.string xu, .int .i64 xs, .int .i64 xk, .string xv], .bool true]) ∧ Below wz.heap.size wz w') := Lib.hid HSK0
        by_cases hxu : xu = u
        · have HR := Lib.hid (show findT b u s = some (some ⟨xu, xs, xk, xv⟩) by unfold findT; rw [hg]; simp only; rw [hm, HNA.out, ha]; simp only; rw [if_pos hxu]; rfl)
          subst hxu
          clear hg hm hv ha HSK0 HNA
          go_enter Try.func15, Try.ntmps15
          go_wp2_with (first | (go_at_call 29; (refine (HO.out _ HBE1.out).mono ?_); rintro e w1 ⟨ps, per, ve, vr, vf, rfl, ho1, hr1, hf1, hs1, hfl1, hb1⟩; (obtain ⟨ea, ec, hve, _, _⟩ := ho1.form); subst hve; (obtain ⟨ra, rc, hvr, _, _⟩ := hr1.form); subst hvr; (obtain ⟨fa, fc, hvf, _, _⟩ := hf1.read.form); subst hvf; have HB1 : Hid (Below w.heap.size w w1) := Lib.hid (HBE1.out.trans (hb1.mono (by simp))); have HP1 := Lib.hid ((hb1.block _ (by simp)).trans (heap_alloc_new w (.cells #[.string ⟨#[]⟩, .int .i64 0, .int .i64 0, .string ⟨#[]⟩] 34))); have HS1 := Lib.hid hs1; have HFL := Lib.hid hfl1; have hba : Below w1.heap.size w1 (w1.alloc (.cells #[.int .i64 (per : Int), .slice ea es.length ec, .slice ra (rowsQ ps).length rc, .slice fa f.length fc] 74)) := (Below.refl _ _).alloc (Nat.le_refl _) _; have HB2 : Hid (Below w.heap.size w (w1.alloc (.cells #[.int .i64 (per : Int), .slice ea es.length ec, .slice ra (rowsQ ps).length rc, .slice fa f.length fc] 74))) := Lib.hid (HB1.out.trans (hba.mono HB1.out.size)); have HR2 := Lib.hid (RdR.below hr1.read hba (Nat.le_refl _)); have HF2 := Lib.hid (RdB.below hf1.read hba (Nat.le_refl _)); have HQ2 := Lib.hid (heap_alloc_new w1 (.cells #[.int .i64 (per : Int), .slice ea es.length ec, .slice ra (rowsQ ps).length rc, .slice fa f.length fc] 74)); have HP2 := Lib.hid ((hba.block _ (blk_lt HP1.out)).trans HP1.out); clear ho1 hr1 hf1 hb1 hs1 hfl1 hba) | (go_at_call 30; (refine (HM.out _ _ HF2.out).mono ?_); rintro e w3 ⟨rfl, hb3⟩; have HB3 : Hid (Below w.heap.size w w3) := Lib.hid (HB2.out.trans (hb3.mono HB2.out.size)); have HR3 := Lib.hid (HR2.out.below hb3 (Nat.le_refl _)); have HQ3 := Lib.hid ((hb3.block _ (blk_lt HQ2.out)).trans HQ2.out); have HP3 := Lib.hid ((hb3.block _ (blk_lt HP2.out)).trans HP2.out); have c2 := blk_cell (i := 2) HQ3.out; simp only [List.getElem?_toArray, List.getElem?_cons_zero, List.getElem?_cons_succ] at c2; clear hb3) | (go_at_call 31; (refine (HSK.out _ _ _ HB3.out HS1.out HFL.out HR3.out).mono ?_); rintro e w4 ⟨rfl, hb4⟩; have HB4 : Hid (Below w.heap.size w w4) := Lib.hid (HB3.out.trans (hb4.mono HB3.out.size)); have hba4 : Below w4.heap.size w4 (w4.alloc (.cells #[.string xu, .int .i64 xs, .int .i64 xk, .string xv] 34)) := (Below.refl _ _).alloc (Nat.le_refl _) _; have hrow := (hb4.block _ (blk_lt HP3.out)).trans HP3.out; have s0 := blk_cell (i := 0) hrow; have t0 := blk_free (i := 0) hrow; have s1 := blk_cell (i := 1) hrow; have t1 := blk_free (i := 1) hrow; have s2 := blk_cell (i := 2) hrow; have t2 := blk_free (i := 2) hrow; have s3 := blk_cell (i := 3) hrow; have t3 := blk_free (i := 3) hrow; simp only [List.getElem?_toArray, List.getElem?_cons_zero, List.getElem?_cons_succ] at s0 s1 s2 s3; have hsz := blk_lt hrow; have HROW := Lib.hid hrow; clear hrow; have HB5 := Lib.hid (HB4.out.trans (hba4.mono HB4.out.size)); clear hb4 hba4))
          refine bodyPost_ret (results_row_tmp2 rfl _ _ w.heap.size 34 #[.string xu, .int .i64 xs, .int .i64 xk, .string xv] (0, 0) _ rfl ?hgD Try.underlying34 rfl (by kernel_rfl)) rfl ?_
          case hgD => exact alloc_keep (set4 HROW.out rfl rfl rfl rfl).1
          exact ⟨by rw [HR.out]; rfl, below_new ((set4 HROW.out rfl rfl rfl rfl).2 _ (Nat.le_refl _) _ (HB4.out))⟩
        · have HR := Lib.hid (show findT b u s = some none by unfold findT; rw [hg]; simp only; rw [hm, HNA.out, ha]; simp only; rw [if_neg hxu]; rfl)
          have hne : (xu.toList == u.toList) = false := by
            rw [beq_eq_false_iff_ne, toList_data, toList_data]
            exact fun e => hxu (ByteArray.ext (Array.toList_inj.1 e))
          clear hg hm hv ha HSK0 HNA
          go_enter Try.func15, Try.ntmps15
          go_wp2_with (first | (go_at_call 29; (refine (HO.out _ HBE1.out).mono ?_); rintro e w1 ⟨ps, per, ve, vr, vf, rfl, ho1, hr1, hf1, hs1, hfl1, hb1⟩; (obtain ⟨ea, ec, hve, _, _⟩ := ho1.form); subst hve; (obtain ⟨ra, rc, hvr, _, _⟩ := hr1.form); subst hvr; (obtain ⟨fa, fc, hvf, _, _⟩ := hf1.read.form); subst hvf; have HB1 : Hid (Below w.heap.size w w1) := Lib.hid (HBE1.out.trans (hb1.mono (by simp))); have HP1 := Lib.hid ((hb1.block _ (by simp)).trans (heap_alloc_new w (.cells #[.string ⟨#[]⟩, .int .i64 0, .int .i64 0, .string ⟨#[]⟩] 34))); have HS1 := Lib.hid hs1; have HFL := Lib.hid hfl1; have hba : Below w1.heap.size w1 (w1.alloc (.cells #[.int .i64 (per : Int), .slice ea es.length ec, .slice ra (rowsQ ps).length rc, .slice fa f.length fc] 74)) := (Below.refl _ _).alloc (Nat.le_refl _) _; have HB2 : Hid (Below w.heap.size w (w1.alloc (.cells #[.int .i64 (per : Int), .slice ea es.length ec, .slice ra (rowsQ ps).length rc, .slice fa f.length fc] 74))) := Lib.hid (HB1.out.trans (hba.mono HB1.out.size)); have HR2 := Lib.hid (RdR.below hr1.read hba (Nat.le_refl _)); have HF2 := Lib.hid (RdB.below hf1.read hba (Nat.le_refl _)); have HQ2 := Lib.hid (heap_alloc_new w1 (.cells #[.int .i64 (per : Int), .slice ea es.length ec, .slice ra (rowsQ ps).length rc, .slice fa f.length fc] 74)); have HP2 := Lib.hid ((hba.block _ (blk_lt HP1.out)).trans HP1.out); clear ho1 hr1 hf1 hb1 hs1 hfl1 hba) | (go_at_call 30; (refine (HM.out _ _ HF2.out).mono ?_); rintro e w3 ⟨rfl, hb3⟩; have HB3 : Hid (Below w.heap.size w w3) := Lib.hid (HB2.out.trans (hb3.mono HB2.out.size)); have HR3 := Lib.hid (HR2.out.below hb3 (Nat.le_refl _)); have HQ3 := Lib.hid ((hb3.block _ (blk_lt HQ2.out)).trans HQ2.out); have HP3 := Lib.hid ((hb3.block _ (blk_lt HP2.out)).trans HP2.out); have c2 := blk_cell (i := 2) HQ3.out; simp only [List.getElem?_toArray, List.getElem?_cons_zero, List.getElem?_cons_succ] at c2; clear hb3) | (go_at_call 31; (refine (HSK.out _ _ _ HB3.out HS1.out HFL.out HR3.out).mono ?_); rintro e w4 ⟨rfl, hb4⟩; have HB4 : Hid (Below w.heap.size w w4) := Lib.hid (HB3.out.trans (hb4.mono HB3.out.size)); have hba4 : Below w4.heap.size w4 (w4.alloc (.cells #[.string xu, .int .i64 xs, .int .i64 xk, .string xv] 34)) := (Below.refl _ _).alloc (Nat.le_refl _) _; have hrow := (hb4.block _ (blk_lt HP3.out)).trans HP3.out; have s0 := blk_cell (i := 0) hrow; have t0 := blk_free (i := 0) hrow; have s1 := blk_cell (i := 1) hrow; have t1 := blk_free (i := 1) hrow; have s2 := blk_cell (i := 2) hrow; have t2 := blk_free (i := 2) hrow; have s3 := blk_cell (i := 3) hrow; have t3 := blk_free (i := 3) hrow; simp only [List.getElem?_toArray, List.getElem?_cons_zero, List.getElem?_cons_succ] at s0 s1 s2 s3; have hsz := blk_lt hrow; have HROW := Lib.hid hrow; clear hrow; have HB5 := Lib.hid (HB4.out.trans (hba4.mono HB4.out.size)); clear hb4 hba4))
          refine bodyPost_ret (results_row_tmp2 rfl _ _ w.heap.size 34 #[.string ⟨#[]⟩, .int .i64 0, .int .i64 0, .string ⟨#[]⟩] (0, 0) _ rfl ?hgE Try.underlying34 rfl (by kernel_rfl)) rfl ?_
          case hgE => exact alloc_keep (set4 HROW.out rfl rfl rfl rfl).1
          exact ⟨by rw [HR.out]; rfl, below_new ((set4 HROW.out rfl rfl rfl rfl).2 _ (Nat.le_refl _) _ (HB4.out))⟩
end Go.Proofs.Yteeikmpfgbfeoaa

/-
  Tables: Ends: the first User and the last one.
-/
namespace Go.Proofs.Yteeikmpfgbfeoaa
open Go.RowKit

set_option maxRecDepth 100000 in
set_option maxHeartbeats 400000 in
theorem ends_any : EndsTC := fun v es w hv _ => by
  have HV := Lib.hid hv
  obtain ⟨va, vc, rfl, hc1, hc2⟩ := hv.form
  unfold maxLen at hc2
  by_cases hne : es = []
  · subst hne
    clear hv
    go_enter Try.func18, Try.ntmps18
    go_wp2
    go_ret2
    exact ⟨rfl, Below.refl _ _⟩
  · have hp := List.length_pos_iff.2 hne
    obtain ⟨_, _, hva, hone⟩ := hv.one
    cases hva
    obtain ⟨m, hm⟩ : ∃ m, es.length = m + 1 := ⟨es.length - 1, by omega⟩
    obtain ⟨b, off, hb0, hbw, y0, _⟩ := hone 0 (by omega)
    obtain ⟨b', off', hb1, _, z0, _⟩ := hone m (by omega)
    subst hb0
    cases hb1
    rw [Nat.zero_mul, Nat.add_zero] at y0
    rw [hm] at hc1 ⊢
    rw [Nat.add_sub_cancel]
    generalize (es.getD 0 Ent.none_).u = yu at *
    generalize (es.getD m Ent.none_).u = xu at *
    have e1 : IntKind.i64.wrap (((m + 1 : Nat) : Int) - 1) = (m : Int) := by rw [IntWalk.i64_in _ (by omega)]; omega
    have e2 : ((m + 1 : Nat) : Int) - 1 = (m : Int) := by omega
    have e5 : (m : Int) < (m : Int) + 1 := by omega
    have e4 : IntKind.i64.wrap (m : Int) = (m : Int) := IntWalk.i64_in _ (by omega)
    have e3 : (((m + 1 : Nat) : Int) == 0) = false := by
      have : ((m + 1 : Nat) : Int) ≠ 0 := by omega
      simpa using this
    clear hone hm hv hp hne HV
    go_enter Try.func18, Try.ntmps18
    go_upto_region 3 with (fail)
    refine wp_region_plan [(true, 0), (true, 1), (true, 2), (true, 3), (true, 4), (true, 5), (true, 6), (true, 7), (true, 8), (true, 9), (true, 10), (true, 11), (true, 12), (true, 13), (true, 14)] (by kernel_rfl) (by kernel_rfl) (by kernel_rfl) (by kernel_rfl) (by kernel_rfl) ?_
    simp only [planO, List.drop_succ_cons, List.drop_zero]
    refine PlanO.take (v := ?v0) (by kernel_rfl) ?y0 ?r0
    case y0 => (intro wz hz; have c0 := Ext.at_ hz y0; have c1 := Ext.at_ hz z0; go_simp; try with_reducible rfl)
    (try simp only [Act.put, List.setIfInBounds_toArray, List.set_cons_zero, List.set_cons_succ])
    refine PlanO.take (v := ?v1) (by kernel_rfl) ?y1 ?r1
    case y1 => (intro wz hz; have c0 := Ext.at_ hz y0; have c1 := Ext.at_ hz z0; go_simp; try with_reducible rfl)
    (try simp only [Act.put, List.setIfInBounds_toArray, List.set_cons_zero, List.set_cons_succ])
    refine PlanO.take (v := ?v2) (by kernel_rfl) ?y2 ?r2
    case y2 => (intro wz hz; have c0 := Ext.at_ hz y0; have c1 := Ext.at_ hz z0; go_simp; try with_reducible rfl)
    (try simp only [Act.put, List.setIfInBounds_toArray, List.set_cons_zero, List.set_cons_succ])
    refine PlanO.take (v := ?v3) (by kernel_rfl) ?y3 ?r3
    case y3 => (intro wz hz; have c0 := Ext.at_ hz y0; have c1 := Ext.at_ hz z0; go_simp; try with_reducible rfl)
    (try simp only [Act.put, List.setIfInBounds_toArray, List.set_cons_zero, List.set_cons_succ])
    refine PlanO.take (v := ?v4) (by kernel_rfl) ?y4 ?r4
    case y4 => (intro wz hz; have c0 := Ext.at_ hz y0; have c1 := Ext.at_ hz z0; go_simp; try with_reducible rfl)
    (try simp only [Act.put, List.setIfInBounds_toArray, List.set_cons_zero, List.set_cons_succ])
    refine PlanO.take (v := ?v5) (by kernel_rfl) ?y5 ?r5
    case y5 => (intro wz hz; have c0 := Ext.at_ hz y0; have c1 := Ext.at_ hz z0; go_simp; try with_reducible rfl)
    (try simp only [Act.put, List.setIfInBounds_toArray, List.set_cons_zero, List.set_cons_succ])
    refine PlanO.take (v := ?v6) (by kernel_rfl) ?y6 ?r6
    case y6 => (intro wz hz; have c0 := Ext.at_ hz y0; have c1 := Ext.at_ hz z0; go_simp; try with_reducible rfl)
    (try simp only [Act.put, List.setIfInBounds_toArray, List.set_cons_zero, List.set_cons_succ])
    refine PlanO.take (v := ?v7) (by kernel_rfl) ?y7 ?r7
    case y7 => (intro wz hz; have c0 := Ext.at_ hz y0; have c1 := Ext.at_ hz z0; go_simp; try with_reducible rfl)
    (try simp only [Act.put, List.setIfInBounds_toArray, List.set_cons_zero, List.set_cons_succ])
    refine PlanO.take (v := ?v8) (by kernel_rfl) ?y8 ?r8
    case y8 => (intro wz hz; have c0 := Ext.at_ hz y0; have c1 := Ext.at_ hz z0; go_simp; try with_reducible rfl)
    (try simp only [Act.put, List.setIfInBounds_toArray, List.set_cons_zero, List.set_cons_succ])
    refine PlanO.take (v := ?v9) (by kernel_rfl) ?y9 ?r9
    case y9 => (intro wz hz; have c0 := Ext.at_ hz y0; have c1 := Ext.at_ hz z0; go_simp; try with_reducible rfl)
    (try simp only [Act.put, List.setIfInBounds_toArray, List.set_cons_zero, List.set_cons_succ])
    refine PlanO.take (v := ?v10) (by kernel_rfl) ?y10 ?r10
    case y10 => (intro wz hz; have c0 := Ext.at_ hz y0; have c1 := Ext.at_ hz z0; go_simp; try with_reducible rfl)
    (try simp only [Act.put, List.setIfInBounds_toArray, List.set_cons_zero, List.set_cons_succ])
    refine PlanO.take (v := ?v11) (by kernel_rfl) ?y11 ?r11
    case y11 => (intro wz hz; have c0 := Ext.at_ hz y0; have c1 := Ext.at_ hz z0; go_simp; try with_reducible rfl)
    (try simp only [Act.put, List.setIfInBounds_toArray, List.set_cons_zero, List.set_cons_succ])
    refine PlanO.take (v := ?v12) (by kernel_rfl) ?y12 ?r12
    case y12 => (intro wz hz; have c0 := Ext.at_ hz y0; have c1 := Ext.at_ hz z0; go_simp; try with_reducible rfl)
    (try simp only [Act.put, List.setIfInBounds_toArray, List.set_cons_zero, List.set_cons_succ])
    refine PlanO.take (v := ?v13) (by kernel_rfl) ?y13 ?r13
    case y13 => (intro wz hz; have c0 := Ext.at_ hz y0; have c1 := Ext.at_ hz z0; go_simp; try with_reducible rfl)
    (try simp only [Act.put, List.setIfInBounds_toArray, List.set_cons_zero, List.set_cons_succ])
    refine PlanO.take (v := ?v14) (by kernel_rfl) ?y14 ?r14
    case y14 => (intro wz hz; have c0 := Ext.at_ hz y0; have c1 := Ext.at_ hz z0; go_simp; try with_reducible rfl)
    (try simp only [Act.put, List.setIfInBounds_toArray, List.set_cons_zero, List.set_cons_succ])
    refine PlanO.done (NoPanic.normal ?_)
    go_wp2
    go_ret2
    exact ⟨rfl, belowT ((Below.refl _ _)) (Below.refl _ _).drew⟩
end Go.Proofs.Yteeikmpfgbfeoaa

/-
  Tables: the landed code's four contracts together.
-/
namespace Go.Proofs.Yteeikmpfgbfeoaa
theorem tab_land : PutTC ∧ AllTC ∧ FindTC ∧ EndsTC := ⟨puttab_any, all_any, find_any, ends_any⟩
end Go.Proofs.Yteeikmpfgbfeoaa

/-
  The walk of TableEnds, on what is landed.
-/
namespace Go.Proofs.Yteeikmpfgbfeoaa
open Go.RowKit

theorem tableEnds_walk (v0 : Value) (ns : List UInt8) (a1 : Int) (W : World) (w0 : RdB W v0 ns) (wa1 : (Lit.int .u8 a1).wf = true) :
    Calls Try.prog 6 #[v0, .int .u8 a1] W fun r w' => r = .returned (.bool true) ∧ Below W.heap.size W w' :=
  tableEnds_walkC puttab_any all_any find_any ends_any v0 ns a1 W w0 wa1
end Go.Proofs.Yteeikmpfgbfeoaa

/-
  How arguments are opened: a slice of bytes that came in reads as a list of bytes; a slice of integers as a list of integers.
-/
namespace Go.Proofs.Yteeikmpfgbfeoaa
open Go.ChangeShapes Go.WideShapes Go.ChangeAt Go.RowKit

/-- The slice 'v' reads as the integers 'zs' (each of them fits the kind 'k') in world 'w'. -/
def RdI (k : IntKind) (w : World) (v : Value) (zs : List Int) : Prop :=
  ∃ a cap, v = .slice a zs.length cap ∧ zs.length ≤ cap ∧ cap ≤ maxLen ∧ (∀ n ∈ zs, (Lit.int k n).wf = true) ∧
    ((zs = [] ∧ (a = none → cap = 0)) ∨ ∃ b off, a = some ⟨b, off, none⟩ ∧ b < w.heap.size ∧ ∀ i, i < zs.length → w.cell? ⟨b, off + i, none⟩ = some (.int k (zs.getD i 0)))

theorem rdI_open {H : Type} {enc : TypeId × Value → H} {P : Program} {w : World} {k : IntKind} {t e : TypeId} {base : Nat} {m : Nat} {spare : Nat → Bool} {held : Bool} {v : Value} {d : DataW H} {p : List MemPlace} (ht : P.underlying t = some (.slice e)) (he : P.underlying e = some (.int k)) (hc : P.cellsOf e = 1)
    (hok : Value.okWide P w .any base t v) (hd : DataW.Trod enc P w m spare held t v d p) : ∃ zs, RdI k w v zs := by
  obtain ⟨a, len, cap, rfl⟩ := okWide_slice ht hok
  obtain ⟨fuel, hf⟩ := hd
  rcases open_ints ht he hc hf with ⟨hcs, _⟩ | ⟨x, l, c, zs, hcs, _, hl, hm, hz, _, hcell, hwz⟩
  · simp [Value.cells] at hcs
    obtain ⟨rfl, rfl, rfl⟩ := hcs
    exact ⟨[], none, 0, rfl, Nat.le_refl _, Nat.zero_le _, by simp, .inl ⟨rfl, fun _ => rfl⟩⟩
  · simp [Value.cells] at hcs
    obtain ⟨rfl, rfl, rfl⟩ := hcs
    have hz' : len ≤ zs.length := by rw [hz]; split <;> omega
    have hlen : (zs.take len).length = len := by rw [List.length_take]; omega
    refine ⟨zs.take len, some x, cap, by rw [hlen], by rw [hlen]; exact hl, hm, fun n hn => hwz n (List.mem_of_mem_take hn), ?_⟩
    by_cases h0 : len = 0
    · left; subst h0; exact ⟨rfl, fun h => by cases h⟩
    · right
      obtain ⟨b, off, spot⟩ := x
      have hc0 := hcell 0 (by omega)
      have hspot : spot = none := by simpa [Addr.add] using World.cell?_spot hc0
      subst hspot
      refine ⟨b, off, rfl, World.block_lt_of_cell? w _ hc0, fun i hi => ?_⟩
      have hi' : i < len := by omega
      have h1 := hcell i (by omega)
      have hadd : (⟨b, off, none⟩ : Addr).add i = ⟨b, off + i, none⟩ := by unfold Addr.add; split <;> simp_all
      rw [hadd] at h1
      rw [h1]
      simp [List.getD, hi']

theorem RdI.bytes {w : World} {v : Value} {zs : List Int} (h : RdI .u8 w v zs) : ∃ l, RdB w v l := by
  obtain ⟨a, cap, rfl, h1, h2, h3, h4⟩ := h
  have key : ∀ (zs : List Int), (∀ n ∈ zs, (Lit.int .u8 n).wf = true) → ∃ l : List UInt8, l.map (fun c => (c.toNat : Int)) = zs := by
    intro zs
    induction zs with
    | nil => exact fun _ => ⟨[], rfl⟩
    | cons z zs ih =>
      intro h
      obtain ⟨l, hl⟩ := ih fun n hn => h n (List.mem_cons_of_mem _ hn)
      have hz := bounds_u8 (h z (List.mem_cons_self ..))
      refine ⟨UInt8.ofNat z.toNat :: l, ?_⟩
      rw [List.map_cons, hl, UInt8.toNat_ofNat', Nat.mod_eq_of_lt (by omega)]
      congr 1
      omega
  obtain ⟨l, rfl⟩ := key zs h3
  simp only [List.length_map] at h1 h4 ⊢
  refine ⟨l, a, cap, rfl, h1, h2, by simp, ?_⟩
  rcases h4 with ⟨h4, h5⟩ | ⟨b, off, rfl, h5, h6⟩
  · left; exact ⟨by simpa using h4, h5⟩
  · refine .inr ⟨b, off, rfl, h5, fun j u hj => ?_⟩
    have hj' : j < l.length := by
      rcases Nat.lt_or_ge j l.length with h | h
      · exact h
      · simp [List.getElem?_eq_none h] at hj
    rw [h6 j hj']
    simp [hj'] at hj
    simp [List.getD, hj', hj]

theorem rdB_open {H : Type} {enc : TypeId × Value → H} {P : Program} {w : World} {t e : TypeId} {base : Nat} {m : Nat} {spare : Nat → Bool} {held : Bool} {v : Value} {d : DataW H} {p : List MemPlace} (ht : P.underlying t = some (.slice e)) (he : P.underlying e = some (.int .u8)) (hc : P.cellsOf e = 1)
    (hok : Value.okWide P w .any base t v) (hd : DataW.Trod enc P w m spare held t v d p) : ∃ l, RdB w v l :=
  let ⟨_, h⟩ := rdI_open ht he hc hok hd
  h.bytes
end Go.Proofs.Yteeikmpfgbfeoaa
