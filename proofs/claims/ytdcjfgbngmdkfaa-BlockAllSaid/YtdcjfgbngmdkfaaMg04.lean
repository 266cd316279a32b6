import Derived.Test.YtdcjfgbngmdkfaaBlkStart2
import Derived.Test.YtdcjfgbngmdkfaaMg03

/-
  Blocks: the first entry that is not below a key, as the program seeks it.
-/
namespace Go.Proofs.Ytdcjfgbngmdkfaa
open Go.RowKit

theorem blk_parts {b : List UInt8} {es : List Ent} (h : IsBlk b es) : b.length = (bodyN es es.length).length + 4 * ((es.length + 3) / 4) + 2 ∧ valL (b.drop (b.length - 2)) = (es.length + 3) / 4 ∧ b.take (bodyN es es.length).length = bodyN es es.length ∧ (b.drop (bodyN es es.length).length).take (4 * ((es.length + 3) / 4)) = tailN es es.length := by
  obtain ⟨h1, h2, h3⟩ := putErr_ok h.1
  have hl := blockL_len es
  have hc := blockL_count es h3
  rw [← h.2]
  refine ⟨hl, hc, ?_, ?_⟩
  · unfold blockL
    rw [List.append_assoc, List.take_left' rfl]
  · unfold blockL
    rw [List.append_assoc, List.drop_left' rfl, List.take_left' (by rw [tailN_len])]

set_option maxRecDepth 100000 in
set_option maxHeartbeats 400000 in
theorem seek_no (v : Value) (b : List UInt8) (u : ByteArray) (s k : Int) (w : World) (hv : RdB w v b) (hl : b.length ≤ 1000000) (hg : getB b = none) :
    Calls Try.prog 13 #[v, .agg #[.string u, .int .i64 s, .int .i64 k]] w fun e w' => e = .returned (ansN none) ∧ Below w.heap.size w w' := by
  have HG : Hid (∀ wz, Below w.heap.size w wz → Calls Try.prog 11 #[v] wz fun e w' => ∃ x, e = .returned (.tuple #[x, .bool false]) ∧ Below wz.heap.size wz w') := Lib.hid fun wz hz => by
    refine (get_any0 v b wz (hv.below hz (Nat.le_refl _)) hl).mono ?_
    rintro e w' ⟨x, rfl, _, hb⟩
    exact ⟨x, by rw [hg]; rfl, hb⟩
  clear hv hg
  go_enter Try.func13, Try.ntmps13
  go_wp2_with (go_at_call 11; (refine (HG.out _ (((Below.refl _ _).alloc (Nat.le_refl _) _).alloc (by simp) _)).mono ?_); rintro e w1 ⟨x, rfl, hb1⟩; have hr : w1.heap[w.heap.size + 1]? = some (.cells #[.string ⟨#[]⟩, .int .i64 0, .int .i64 0, .string ⟨#[]⟩] 36 (0, 0)) := (hb1.block _ (by simp)).trans (heap_new2 w _ _); have HR := Lib.hid hr; have HB1 : Hid (Below w.heap.size w w1) := Lib.hid ((((Below.refl _ _).alloc (Nat.le_refl _) _).alloc (by simp) _).trans (hb1.mono (by simp; omega))); have s0 := blk_cell (i := 0) hr; have t0 := blk_free (i := 0) hr; have s1 := blk_cell (i := 1) hr; have t1 := blk_free (i := 1) hr; have s2 := blk_cell (i := 2) hr; have t2 := blk_free (i := 2) hr; have s3 := blk_cell (i := 3) hr; have t3 := blk_free (i := 3) hr; clear hr hb1)
  refine bodyPost_ret (results_row_tmp rfl _ _ (w.heap.size + 1) 36 #[.string ⟨#[]⟩, .int .i64 0, .int .i64 0, .string ⟨#[]⟩] (0, 0) _ rfl ?hgE Try.underlying36 rfl (by kernel_rfl)) rfl ?_
  case hgE => exact (set4 HR.out rfl rfl rfl rfl).1
  exact ⟨rfl, (set4 HR.out rfl rfl rfl rfl).2 _ (Nat.le_succ _) _ HB1.out⟩

set_option maxRecDepth 100000 in
set_option maxHeartbeats 400000 in
theorem seek_yes (v : Value) (b : List UInt8) (es : List Ent) (u : ByteArray) (s k : Int) (w : World) (hv : RdB w v b) (hl : b.length ≤ 1000000) (hu : u.size ≤ 1000) (hg : IsBlk b es) :
    Calls Try.prog 13 #[v, .agg #[.string u, .int .i64 s, .int .i64 k]] w fun e w' => e = .returned (ansN (aboveL es u s k)) ∧ Below w.heap.size w w' := by
  have HG : Hid (∀ wz, Below w.heap.size w wz → Calls Try.prog 11 #[v] wz fun e w' => ∃ x, e = .returned (.tuple #[x, .bool true]) ∧ Below wz.heap.size wz w') := Lib.hid fun wz hz => by
    refine (get_any0 v b wz (hv.below hz (Nat.le_refl _)) hl).mono ?_
    rintro e w' ⟨x, rfl, _, hb⟩
    exact ⟨x, by rw [getB_some hg]; rfl, hb⟩
  obtain ⟨h1, h2, h3⟩ := putErr_ok hg.1
  have hpos := List.length_pos_iff.2 h2
  obtain ⟨p1, p2, p3, p4⟩ := blk_parts hg
  have hm := fun k (hk : k < es.length) => rising_may h1 hk
  have HSP : Hid (∀ wz, Below w.heap.size w wz → Calls Try.prog 29 #[v] wz fun e w' => ∃ x y, e = .returned (.tuple #[x, y, .bool true]) ∧ RdB w' x (bodyN es es.length) ∧ RdB w' y (tailN es es.length) ∧ Below wz.heap.size wz w') := Lib.hid fun wz hz => by
    have h := split_yes v b wz (hv.below hz (Nat.le_refl _)) _ _ p2 p1
    rw [p3, p4] at h
    exact h
  have HST := Lib.hid (fun x y wz => start_any h1 hpos h3 x y u s k wz (by unfold maxLen; omega))
  have HRE : Hid (∀ i, i < es.length → readP (bodyN es es.length) (prevU es i) (bodyN es i).length = some (es.getD i Ent.none_, (bodyN es (i + 1)).length)) := Lib.hid fun i hi => read_at hm hi
  have HRW : Hid (∀ i, 4 * i < es.length → readP (bodyN es es.length) [] (bodyN es (4 * i)).length = some (es.getD (4 * i) Ent.none_, (bodyN es (4 * i + 1)).length)) := Lib.hid fun i hi => read_whole hm hi
  have HSU : Hid (∀ k, k < es.length → (es.getD k Ent.none_).u.size ≤ 64) := Lib.hid fun k hk => by
    have := (may_facts (hm k hk)).1
    rw [size_list] at this
    exact this
  have HLT : Hid (∀ i, i ≤ es.length → ((bodyN es i).length < (bodyN es es.length).length ↔ i < es.length)) := Lib.hid fun i hi => (⟨rfl, hm⟩ : IsBody (bodyN es es.length) es).at_end hi
  have HLN : Hid (∀ i, (bodyN es i).length < (bodyN es (i + 1)).length) := Lib.hid fun i => bodyN_lt es (Nat.lt_succ_self i)
  have hbc : (bodyN es es.length).length ≤ 1000000 := by omega
  clear hv hg h1 h2 h3 hpos p1 p2 p3 p4 hm hl
  have HPV : Hid (∀ i, prevU es (i + 1) = (es.getD i Ent.none_).u.data.toList) := Lib.hid fun i => by unfold prevU; rw [if_neg (by omega), Nat.add_sub_cancel]
  generalize tailN es es.length = t at *
  generalize bodyN es es.length = c at *
  obtain ⟨bl, hbl⟩ : ∃ bl : Nat → Nat, bl = fun i => (bodyN es i).length := ⟨_, rfl⟩
  have HBE : Hid (∀ i, (bodyN es i).length = bl i) := Lib.hid fun i => by rw [hbl]
  clear hbl
  simp only [HBE.out] at HRE HRW HLT HLN HST
  clear HBE
  go_enter Try.func13, Try.ntmps13
  go_wp2_with (first | (go_at_call 11; (refine (HG.out _ (((Below.refl _ _).alloc (Nat.le_refl _) _).alloc (by simp) _)).mono ?_); rintro e w1 ⟨gx, rfl, hb1⟩; have HB1 : Hid (Below w.heap.size w w1) := Lib.hid ((((Below.refl _ _).alloc (Nat.le_refl _) _).alloc (by simp) _).trans (hb1.mono (by simp; omega))); have HK1 : Hid (w1.heap[w.heap.size]? = some (.cells #[.string u, .int .i64 s, .int .i64 k] 25 (0, 0))) := Lib.hid ((hb1.block _ (by simp; omega)).trans (alloc_keep (heap_alloc_new w _))); have HR1 : Hid (w1.heap[w.heap.size + 1]? = some (.cells #[.string ⟨#[]⟩, .int .i64 0, .int .i64 0, .string ⟨#[]⟩] 36 (0, 0))) := Lib.hid ((hb1.block _ (by simp)).trans (heap_new2 w _ _)); clear hb1) | (go_at_call 29; (refine (HSP.out _ HB1.out).mono ?_); rintro e w2 ⟨sx, y, rfl, hx, hy, hb2⟩; obtain ⟨xa, xc, rfl, _, _⟩ := hx.form; have HX2 := Lib.hid hx; have HY2 := Lib.hid hy; have HB2 : Hid (Below w.heap.size w w2) := Lib.hid (HB1.out.trans (hb2.mono HB1.out.size)); have HK2 : Hid (w2.heap[w.heap.size]? = some (.cells #[.string u, .int .i64 s, .int .i64 k] 25 (0, 0))) := Lib.hid ((hb2.block _ (blk_lt HK1.out)).trans HK1.out); have HR2 : Hid (w2.heap[w.heap.size + 1]? = some (.cells #[.string ⟨#[]⟩, .int .i64 0, .int .i64 0, .string ⟨#[]⟩] 36 (0, 0))) := Lib.hid ((hb2.block _ (blk_lt HR1.out)).trans HR1.out); have y0 : w2.cell? ⟨w.heap.size, 0, none⟩ = some (.string u) := blk_cell (i := 0) HK2.out; have y1 : w2.cell? ⟨w.heap.size, 1, none⟩ = some (.int .i64 s) := blk_cell (i := 1) HK2.out; have y2 : w2.cell? ⟨w.heap.size, 2, none⟩ = some (.int .i64 k) := blk_cell (i := 2) HK2.out; clear hb2 hx hy) | (go_at_call 35; (refine (HST.out _ _ _ HX2.out HY2.out).mono ?_); rintro e w5 ⟨j, hj, rfl, hlo, hb5⟩; have HLO := Lib.hid hlo; have HX5 := Lib.hid (HX2.out.below hb5 (Nat.le_refl _)); have HB5 : Hid (Below w.heap.size w w5) := Lib.hid (HB2.out.trans (hb5.mono HB2.out.size)); have HK5 : Hid (w5.heap[w.heap.size]? = some (.cells #[.string u, .int .i64 s, .int .i64 k] 25 (0, 0))) := Lib.hid ((hb5.block _ (blk_lt HK2.out)).trans HK2.out); have HR5 : Hid (w5.heap[w.heap.size + 1]? = some (.cells #[.string ⟨#[]⟩, .int .i64 0, .int .i64 0, .string ⟨#[]⟩] 36 (0, 0))) := Lib.hid ((hb5.block _ (blk_lt HR2.out)).trans HR2.out); clear hb5 hlo y0 y1 y2))
  have HXB := Lib.hid (show RdB w5 (.slice xa c.length xc) c ∧ Below w.heap.size w w5 ∧ w5.heap[w.heap.size]? = some (.cells #[.string u, .int .i64 s, .int .i64 k] 25 (0, 0)) ∧ w5.heap[w.heap.size + 1]? = some (.cells #[.string ⟨#[]⟩, .int .i64 0, .int .i64 0, .string ⟨#[]⟩] 36 (0, 0)) from ⟨HX5.out, HB5.out, HK5.out, HR5.out⟩)
  clear HX5 HB5 HK5 HR5
  go_loopw [11, 12] (fun at_ last wr => ∃ (i : Nat) (L : ByteArray), i ≤ es.length ∧ at_ = .int .i64 ((bl i : Nat) : Int) ∧ last = .string L ∧ L.size ≤ 64 ∧ Hid (i < es.length → readP c L.data.toList (bl i) = some (es.getD i Ent.none_, bl (i + 1))) ∧ Hid (∀ a, a < i → (es.getD a Ent.none_).cmp ⟨u, s, k, ⟨#[]⟩⟩ < 0) ∧ Hid (RdB wr (.slice xa c.length xc) c) ∧ Hid (Below w.heap.size w wr ∧ wr.heap[w.heap.size]? = some (.cells #[.string u, .int .i64 s, .int .i64 k] 25 (0, 0)) ∧ wr.heap[w.heap.size + 1]? = some (.cells #[.string ⟨#[]⟩, .int .i64 0, .int .i64 0, .string ⟨#[]⟩] 36 (0, 0)))) (fun at_ _ _ => c.length - (intOf at_).toNat)
  case atStart => exact ⟨4 * j, ⟨#[]⟩, by omega, rfl, rfl, by simp [ByteArray.size], Lib.hid (fun h => HRW.out j h), HLO, Lib.hid HXB.out.1, Lib.hid HXB.out.2⟩
  case round =>
    obtain ⟨i, L, hi, rfl, rfl, hL, HRI, HK, HX, HB⟩ := hrel
    have hie := HLT.out i hi
    by_cases hlt : i < es.length
    · have hlc := hie.2 hlt
      have k1 : decide ((bl i : Int) < (c.length : Int)) = true := by simp; omega
      have k1n : decide (bl i < c.length) = true := by simp; omega
      have hrd := read_any (.slice xa c.length xc) c L (bl i) wr HX.out (by omega)
      rw [HRI.out hlt] at hrd
      have HAT := Lib.hid (@above_at es u s k i hlt HK.out)
      have HMO := Lib.hid (show (es.getD i Ent.none_).cmp ⟨u, s, k, ⟨#[]⟩⟩ < 0 → ∀ a, a < i + 1 → (es.getD a Ent.none_).cmp ⟨u, s, k, ⟨#[]⟩⟩ < 0 from fun h2 a ha => by
        rcases Nat.lt_or_ge a i with h1 | h1
        · exact HK.out a h1
        · obtain rfl : a = i := by omega
          exact h2)
      have HRN := Lib.hid (fun h : i + 1 < es.length => HRE.out (i + 1) h)
      rw [HPV.out i] at HRN
      have hsu := HSU.out i hlt
      have hln := HLN.out i
      generalize es.getD i Ent.none_ = X at *
      obtain ⟨xu, xs, xk, xv⟩ := X
      simp only at hsu HRN
      have HRD : Hid (Calls Try.prog 36 #[.slice xa c.length xc, .int .i64 ((bl i : Nat) : Int), .string L] wr fun e w' => e = .returned (.tuple #[.agg #[.string xu, .int .i64 xs, .int .i64 xk, .string xv], .int .i64 ((bl (i + 1) : Nat) : Int), .bool true]) ∧ Below wr.heap.size wr w') := Lib.hid hrd
      obtain ⟨cm, hcm⟩ : ∃ cm, (Ent.mk xu xs xk xv).cmp ⟨u, s, k, ⟨#[]⟩⟩ = cm := ⟨_, rfl⟩
      have HCM : Hid (∀ wz, Calls Try.prog 37 #[.agg #[.string xu, .int .i64 xs, .int .i64 xk], .agg #[.string u, .int .i64 s, .int .i64 k]] wz fun e w' => e = .returned (.int .i64 cm) ∧ Below wz.heap.size wz w') := Lib.hid fun wz => by rw [← hcm]; exact cmp_any xu xs xk u s k (by unfold maxLen; omega) (by unfold maxLen; omega) wz
      rw [hcm] at HAT HMO
      clear hcm hrd HRI hie
      by_cases hc0 : 0 ≤ cm
      · have hd : decide (0 ≤ cm) = true := by simpa using hc0
        have HR := Lib.hid (HAT.out (by omega))
        clear HMO HAT HRN
        go_wp2_with (first | (go_at_call 36; (refine HRD.out.mono ?_); rintro e w3 ⟨rfl, hb3⟩; have HB3 : Hid (Below w.heap.size w w3) := Lib.hid (HB.out.1.trans (hb3.mono HB.out.1.size)); have HK3 : Hid (w3.heap[w.heap.size]? = some (.cells #[.string u, .int .i64 s, .int .i64 k] 25 (0, 0))) := Lib.hid ((hb3.block _ (blk_lt HB.out.2.1)).trans HB.out.2.1); have HR3 : Hid (w3.heap[w.heap.size + 1]? = some (.cells #[.string ⟨#[]⟩, .int .i64 0, .int .i64 0, .string ⟨#[]⟩] 36 (0, 0))) := Lib.hid ((hb3.block _ (blk_lt HB.out.2.2)).trans HB.out.2.2); have y0 : w3.cell? ⟨w.heap.size, 0, none⟩ = some (.string u) := blk_cell (i := 0) HK3.out; have y1 : w3.cell? ⟨w.heap.size, 1, none⟩ = some (.int .i64 s) := blk_cell (i := 1) HK3.out; have y2 : w3.cell? ⟨w.heap.size, 2, none⟩ = some (.int .i64 k) := blk_cell (i := 2) HK3.out; have hlt3 := blk_lt HK3.out; have HX3 := Lib.hid (HX.out.below hb3 (Nat.le_refl _)); clear hb3) | (go_at_call 37; (refine (HCM.out _).mono ?_); rintro e w4 ⟨rfl, hb4⟩; have HB4 : Hid (Below w.heap.size w w4) := Lib.hid ((HB3.out.alloc HB3.out.size _).trans (hb4.mono (Nat.le_trans HB3.out.size (by simp)))); have HK4 : Hid (w4.heap[w.heap.size]? = some (.cells #[.string u, .int .i64 s, .int .i64 k] 25 (0, 0))) := Lib.hid ((hb4.block _ (blk_lt (alloc_keep HK3.out))).trans (alloc_keep HK3.out)); have HR4 : Hid (w4.heap[w.heap.size + 1]? = some (.cells #[.string ⟨#[]⟩, .int .i64 0, .int .i64 0, .string ⟨#[]⟩] 36 (0, 0))) := Lib.hid ((hb4.block _ (blk_lt (alloc_keep HR3.out))).trans (alloc_keep HR3.out)); have HX4 : Hid (w4.heap[w3.heap.size]? = some (.cells #[.string xu, .int .i64 xs, .int .i64 xk, .string xv] 36 (0, 0))) := Lib.hid ((hb4.block _ (by simp)).trans (heap_alloc_new w3 _)); have HRX4 := Lib.hid ((HX3.out.below ((Below.refl w3.heap.size _).alloc (Nat.le_refl _) _) (Nat.le_refl _)).below hb4 (by simp)); clear hb4 y0 y1 y2 hlt3; have hrow := HR4.out; have hbox := HX4.out; have s0 := blk_cell (i := 0) hrow; have t0 := blk_free (i := 0) hrow; have s1 := blk_cell (i := 1) hrow; have t1 := blk_free (i := 1) hrow; have s2 := blk_cell (i := 2) hrow; have t2 := blk_free (i := 2) hrow; have s3 := blk_cell (i := 3) hrow; have t3 := blk_free (i := 3) hrow; have x0 := blk_cell (i := 0) hbox; have x1 := blk_cell (i := 1) hbox; have x2 := blk_cell (i := 2) hbox; have x3 := blk_cell (i := 3) hbox; clear hrow hbox))
        refine bodyPost_ret (results_row_tmp rfl _ _ (w.heap.size + 1) 36 #[.string xu, .int .i64 xs, .int .i64 xk, .string xv] (0, 0) _ rfl ?hgE Try.underlying36 rfl (by kernel_rfl)) rfl ?_
        case hgE => exact (set4 HR4.out rfl rfl rfl rfl).1
        rw [HR.out]
        exact ⟨rfl, (set4 HR4.out rfl rfl rfl rfl).2 _ (Nat.le_succ _) _ HB4.out⟩
      · have hd : decide (0 ≤ cm) = false := by simpa using hc0
        have HN := Lib.hid (HMO.out (by omega))
        clear HMO HAT
        go_upto_region 10 with (first | (go_at_call 36; (refine HRD.out.mono ?_); rintro e w3 ⟨rfl, hb3⟩; have HB3 : Hid (Below w.heap.size w w3) := Lib.hid (HB.out.1.trans (hb3.mono HB.out.1.size)); have HK3 : Hid (w3.heap[w.heap.size]? = some (.cells #[.string u, .int .i64 s, .int .i64 k] 25 (0, 0))) := Lib.hid ((hb3.block _ (blk_lt HB.out.2.1)).trans HB.out.2.1); have HR3 : Hid (w3.heap[w.heap.size + 1]? = some (.cells #[.string ⟨#[]⟩, .int .i64 0, .int .i64 0, .string ⟨#[]⟩] 36 (0, 0))) := Lib.hid ((hb3.block _ (blk_lt HB.out.2.2)).trans HB.out.2.2); have y0 : w3.cell? ⟨w.heap.size, 0, none⟩ = some (.string u) := blk_cell (i := 0) HK3.out; have y1 : w3.cell? ⟨w.heap.size, 1, none⟩ = some (.int .i64 s) := blk_cell (i := 1) HK3.out; have y2 : w3.cell? ⟨w.heap.size, 2, none⟩ = some (.int .i64 k) := blk_cell (i := 2) HK3.out; have hlt3 := blk_lt HK3.out; have HX3 := Lib.hid (HX.out.below hb3 (Nat.le_refl _)); clear hb3) | (go_at_call 37; (refine (HCM.out _).mono ?_); rintro e w4 ⟨rfl, hb4⟩; have HB4 : Hid (Below w.heap.size w w4) := Lib.hid ((HB3.out.alloc HB3.out.size _).trans (hb4.mono (Nat.le_trans HB3.out.size (by simp)))); have HK4 : Hid (w4.heap[w.heap.size]? = some (.cells #[.string u, .int .i64 s, .int .i64 k] 25 (0, 0))) := Lib.hid ((hb4.block _ (blk_lt (alloc_keep HK3.out))).trans (alloc_keep HK3.out)); have HR4 : Hid (w4.heap[w.heap.size + 1]? = some (.cells #[.string ⟨#[]⟩, .int .i64 0, .int .i64 0, .string ⟨#[]⟩] 36 (0, 0))) := Lib.hid ((hb4.block _ (blk_lt (alloc_keep HR3.out))).trans (alloc_keep HR3.out)); have HX4 : Hid (w4.heap[w3.heap.size]? = some (.cells #[.string xu, .int .i64 xs, .int .i64 xk, .string xv] 36 (0, 0))) := Lib.hid ((hb4.block _ (by simp)).trans (heap_alloc_new w3 _)); have HRX4 := Lib.hid ((HX3.out.below ((Below.refl w3.heap.size _).alloc (Nat.le_refl _) _) (Nat.le_refl _)).below hb4 (by simp)); clear hb4 y0 y1 y2 hlt3))
        have x0 : w4.cell? ⟨w3.heap.size, 0, none⟩ = some (.string xu) := blk_cell (i := 0) HX4.out
        refine wp_region_plan [(true, 0), (true, 1), (true, 2), (true, 3), (true, 4), (true, 5)] (by kernel_rfl) (by kernel_rfl) (by kernel_rfl) (by kernel_rfl) (by kernel_rfl) ?_
        simp only [planO, List.drop_succ_cons, List.drop_zero]
        refine PlanO.take (v := ?v0) (by kernel_rfl) ?y0 ?r0
        case y0 => (intro wz hz; go_simp; try with_reducible rfl)
        (try simp only [Act.put, List.setIfInBounds_toArray, List.set_cons_zero, List.set_cons_succ])
        refine PlanO.take (v := .pointer (some ⟨w3.heap.size, 0, none⟩)) (by kernel_rfl) ?y1 ?r1
        case y1 => (intro wz hz; go_simp; try with_reducible rfl)
        (try simp only [Act.put, List.setIfInBounds_toArray, List.set_cons_zero, List.set_cons_succ])
        refine PlanO.take (v := .pointer (some ⟨w3.heap.size, 0, none⟩)) (by kernel_rfl) ?y2 ?r2
        case y2 => (intro wz hz; go_simp; try with_reducible rfl)
        (try simp only [Act.put, List.setIfInBounds_toArray, List.set_cons_zero, List.set_cons_succ])
        refine PlanO.take (v := .string xu) (by kernel_rfl) ?y3 ?r3
        case y3 => (intro wz hz; have c0 := Ext.at_ hz x0; go_simp; try with_reducible rfl)
        (try simp only [Act.put, List.setIfInBounds_toArray, List.set_cons_zero, List.set_cons_succ])
        refine PlanO.take (v := ?v4) (by kernel_rfl) ?y4 ?r4
        case y4 => (intro wz hz; go_simp; try with_reducible rfl)
        (try simp only [Act.put, List.setIfInBounds_toArray, List.set_cons_zero, List.set_cons_succ])
        refine PlanO.take (v := ?v5) (by kernel_rfl) ?y5 ?r5
        case y5 => (intro wz hz; go_simp; try with_reducible rfl)
        (try simp only [Act.put, List.setIfInBounds_toArray, List.set_cons_zero, List.set_cons_succ])
        refine PlanO.done (NoPanic.normal ?_)
        go_wp2
        exact ⟨⟨i + 1, xu, by omega, rfl, rfl, hsu, HRN, HN, Lib.hid (HRX4.out.below (Below.refl w4.heap.size _).drew (Nat.le_refl _)), Lib.hid ⟨HB4.out.drew, HK4.out, HR4.out⟩⟩, by simp [intOf]; omega⟩
    · have hie2 : i = es.length := by omega
      have k1 : decide ((bl i : Int) < (c.length : Int)) = false := by simp; omega
      have k1n : decide (bl i < c.length) = false := by simp; omega
      have HR := Lib.hid (above_no (es := es) (u := u) (s := s) (k := k) (fun j hj => HK.out j (by omega)))
      have hrow := HB.out.2.2
      have s0 := blk_cell (i := 0) hrow; have t0 := blk_free (i := 0) hrow; have s1 := blk_cell (i := 1) hrow; have t1 := blk_free (i := 1) hrow; have s2 := blk_cell (i := 2) hrow; have t2 := blk_free (i := 2) hrow; have s3 := blk_cell (i := 3) hrow; have t3 := blk_free (i := 3) hrow
      clear hrow hie2 hie
      go_wp2
      refine bodyPost_ret (results_row_tmp rfl _ _ (w.heap.size + 1) 36 #[.string ⟨#[]⟩, .int .i64 0, .int .i64 0, .string ⟨#[]⟩] (0, 0) _ rfl ?hgE Try.underlying36 rfl (by kernel_rfl)) rfl ?_
      case hgE => exact (set4 HB.out.2.2 rfl rfl rfl rfl).1
      rw [HR.out]
      exact ⟨rfl, (set4 HB.out.2.2 rfl rfl rfl rfl).2 _ (Nat.le_succ _) _ HB.out.1⟩

theorem seek_any12 : SeekC := fun v b u s k hu _ _ w hv hl => by
  cases h : getB b with
  | none =>
    have := seek_no v b u s k w hv hl h
    refine this.mono ?_
    rintro e w' ⟨rfl, hb⟩
    exact ⟨rfl, hb⟩
  | some es => exact seek_yes v b es u s k w hv hl hu (getB_is h)
end Go.Proofs.Ytdcjfgbngmdkfaa
