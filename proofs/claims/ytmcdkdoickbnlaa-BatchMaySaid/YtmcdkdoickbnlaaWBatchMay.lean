/-
  The walk of BatchMay: operations may be up to the limits, and no further; what is wrong is told, the first of them.
-/
import Derived.Test.YtmcdkdoickbnlaaBatchAwake
import Derived.Test.YtmcdkdoickbnlaaOpsMay
import Derived.Test.YtmcdkdoickbnlaaFork
import Derived.Deep.OwnRows
import Derived.Deep.Cut
namespace Go.Proofs.Ytmcdkdoickbnlaa
open Go.RowKit

/-- The operation of which there are so many. -/
def kvO : Ope := ⟨1, ⟨#[107]⟩, ⟨#[118]⟩⟩

/-- So many noughts. -/
abbrev zS (m : Nat) : ByteArray := strB (List.replicate m 0)

theorem zS_size (m : Nat) : (zS m).size = m := by rw [strB_size, List.length_replicate]

theorem kv_may : mayO kvO = 0 := by decide
theorem kv_fits : kvO.fits := ⟨by decide, by unfold maxLen; decide, by unfold maxLen; decide⟩
theorem kvs_may (k : Nat) : mayOs (List.replicate k kvO) = if k = 0 then 1 else if 32 < k then 4 else 0 := by
  unfold mayOs
  rw [List.length_replicate]
  split
  · rfl
  · split
    · rfl
    · have : ∀ n, firstW (List.replicate n kvO) = 0 := by
        intro n
        induction n with
        | zero => rfl
        | succ n ih => rw [List.replicate_succ, firstW, if_pos kv_may, ih]
      exact this k

theorem firstW_set {l : List Ope} {i : Nat} {o : Ope} (hi : i < l.length) (h : ∀ x ∈ l, mayO x = 0) : firstW (l.set i o) = mayO o := by
  have hz : ∀ r : List Ope, (∀ x ∈ r, mayO x = 0) → firstW r = 0 := by
    intro r hr
    induction r with
    | nil => rfl
    | cons x t ih => rw [firstW, if_pos (hr x (by simp))]; exact ih fun y hy => hr y (by simp [hy])
  induction l generalizing i with
  | nil => simp at hi
  | cons x r ih =>
    cases i with
    | zero =>
      rw [List.set_cons_zero, firstW]
      split
      · rename_i h0; rw [h0]; exact hz r fun y hy => h y (by simp [hy])
      · rfl
    | succ i =>
      rw [List.set_cons_succ, firstW, if_pos (h x (by simp))]
      exact ih (by simpa using hi) fun y hy => h y (by simp [hy])

theorem kvs_set {k i : Nat} (o : Ope) (h1 : 1 ≤ k) (h2 : k ≤ 32) (hi : i < k) : mayOs ((List.replicate k kvO).set i o) = mayO o := by
  unfold mayOs
  rw [List.length_set, List.length_replicate, if_neg (by omega), if_neg (by omega)]
  exact firstW_set (by simpa using hi) fun x hx => by rw [(List.mem_replicate.1 hx).2]; exact kv_may

theorem kvs_set_fits {k i : Nat} {o : Ope} (ho : o.fits) : ∀ x ∈ (List.replicate k kvO).set i o, x.fits := by
  intro x hx
  rcases List.mem_or_eq_of_mem_set hx with h | h
  · rw [(List.mem_replicate.1 h).2]; exact kv_fits
  · rw [h]; exact ho

theorem u8_bounds {a : Int} (h : (Lit.int .u8 a).wf = true) : 0 ≤ a ∧ a ≤ 255 := bounds_u8 h
theorem u16_bounds {a : Int} (h : (Lit.int .u16 a).wf = true) : 0 ≤ a ∧ a ≤ 65535 := bounds_u16 h

/-- A remainder, as a number. -/
theorem rem_nat {a : Int} (n : Nat) (h : 0 ≤ a) (hn : 0 < n) : ∃ m : Nat, a.tmod (n : Int) = (m : Int) ∧ m < n := by
  obtain ⟨b, rfl⟩ := Int.eq_ofNat_of_zero_le h
  exact ⟨b % n, by rw [Int.ofNat_tmod], Nat.mod_lt _ hn⟩

theorem kd_wf (k : Nat) (h : k < 4) : (Lit.int .i64 (k : Int)).wf = true := by
  rcases (by omega : k = 0 ∨ k = 1 ∨ k = 2 ∨ k = 3) with rfl | rfl | rfl | rfl <;> decide

theorem fresh_zeros (w : World) (n : Nat) (hn : n ≤ 1000000) : RdB (w.alloc (.cells (madeCells #[.int .u8 0] n) 5)) (.slice (some ⟨w.heap.size, 0, none⟩) n n) (List.replicate n 0) := by
  have h := World.ownsRow_lit (base := 0) (e := 5) (size := 1) w (madeCells #[.int .u8 0] n) n (Nat.zero_le _) (by unfold maxLen; omega) (by simp [madeCells])
  have e := madeZeros n
  rw [Nat.mul_one] at e
  have e2 : (madeCells #[Value.int .u8 0] n).toList = (List.replicate n (0 : UInt8)).map bv := e
  rw [e2] at h
  unfold RdB
  rw [List.length_replicate]
  exact rd_of_own h

theorem zeros_run (n : Nat) (hn : n ≤ 1000000) (w : World) : (Instr.makeSlice 25 (.int .i64 (n : Int)) (.int .i64 (n : Int))).run Try.prog w = .ok (.slice (some ⟨w.heap.size, 0, none⟩) n n) (w.alloc (.cells (madeCells #[.int .u8 0] n) 5)) :=
  run_make_row' (P := Try.prog) 25 5 (.int .u8 0) 1 Try.underlying25 info_u8 rfl .i64 .i64 n (by omega) (by omega) w

set_option maxRecDepth 100000 in
set_option maxHeartbeats 8000000 in
theorem batchMay_walk (n key val kind at_ : Int) (W : World) (wn : (Lit.int .u8 n).wf = true) (wkey : (Lit.int .u8 key).wf = true) (wval : (Lit.int .u16 val).wf = true) (wkind : (Lit.int .u8 kind).wf = true) (wat : (Lit.int .u8 at_).wf = true) :
    Calls Try.prog 6 #[.int .u8 n, .int .u8 key, .int .u16 val, .int .u8 kind, .int .u8 at_] W fun e W' => e = .returned (.bool true) ∧ Below W.heap.size W W' := by
  have bn := u8_bounds wn
  have bkey := u8_bounds wkey
  have bval := u16_bounds wval
  have bkind := u8_bounds wkind
  have bat := u8_bounds wat
  obtain ⟨k, hk, hk40⟩ := rem_nat (a := n) 40 (by omega) (by decide)
  obtain ⟨mk, hmk, hmk80⟩ := rem_nat (a := key) 80 (by omega) (by decide)
  obtain ⟨mv, hmv, hmv600⟩ := rem_nat (a := val) 600 (by omega) (by decide)
  obtain ⟨kd, hkd, hkd4⟩ := rem_nat (a := kind) 4 (by omega) (by decide)
  have c40 : ((40 : Nat) : Int) = 40 := rfl
  have c80 : ((80 : Nat) : Int) = 80 := rfl
  have c600 : ((600 : Nat) : Int) = 600 := rfl
  have c4 : ((4 : Nat) : Int) = 4 := rfl
  rw [c40] at hk
  rw [c80] at hmk
  rw [c600] at hmv
  rw [c4] at hkd
  clear c40 c80 c600 c4
  have HK := Lib.hid (kvs_may k)
  go_enter Try.func6, Try.ntmps6
  go_wp2
  go_loopw [12, 13] (fun u i wr => ∃ (j : Nat) (u' : Value), j ≤ k ∧ u' = u ∧ i = .int .i64 j ∧ OwnO wr W.heap.size 45 u' (List.replicate j kvO) ∧ Below W.heap.size W wr) (fun _ i _ => k - (intOf i).toNat)
  case atStart => exact ⟨0, _, Nat.zero_le _, rfl, rfl, OwnO.nil _ _ _, Below.refl _ _⟩
  case round =>
    obtain ⟨j, u, hj, rfl, rfl, hu, hb⟩ := hrel
    have HU := Lib.hid hu
    have HB := Lib.hid hb
    clear hu hb
    by_cases hlt : j < k
    · go_wp2_with (at_builtin; refine wpList_append_rd rfl (.tmp 26) (.tmp 28) 22 rfl W.heap.size 45 3 40 (.agg #[.int .i64 0, .string ⟨#[]⟩, .string ⟨#[]⟩]) Try.underlying22 info_op rfl (by decide) _ _ _ 1 _ ([kvO].flatMap Ope.cells) rfl rfl (World.ownsRow.alloc HU.out _) ?rdA (opFlat_one _) ?bbA ?l1A ?l2A ?kkA)
      case rdA => exact one_op _ kvO
      case bbA => (have := HB.out.size; simp; omega)
      case l1A => (rw [List.length_replicate]; omega)
      case l2A => (rw [List.length_replicate]; unfold maxLen; omega)
      case kkA =>
        intro vA wA hown hBk
        have hb := hBk W.heap.size W (Nat.le_refl _) (HB.out.alloc HB.out.size _)
        have HO := Lib.hid (show OwnO wA W.heap.size 45 vA (List.replicate (j + 1) kvO) by unfold OwnO; rw [List.replicate_succ', List.length_append, List.length_replicate, opFlat_app, opFlat_one_]; exact hown)
        have HBA := Lib.hid hb
        clear hown hBk hb
        go_wp2
        refine ⟨⟨j + 1, vA, by omega, rfl, by go_num, HO.out, HBA.out⟩, ?_⟩
        simp [intOf]; omega
    · obtain rfl : j = k := by omega
      have hrd := HU.out.read (fun o ho => by rw [(List.mem_replicate.1 ho).2]; exact kv_fits)
      obtain ⟨ua, ucap, rfl, hcap, hcap2⟩ := HU.out.form
      rw [List.length_replicate] at hcap hrd
      have hmay := bmay_any (.slice ua (List.replicate j kvO).length ucap) (List.replicate j kvO) wr (HU.out.read (fun o ho => by rw [(List.mem_replicate.1 ho).2]; exact kv_fits))
      rw [HK.out, List.length_replicate] at hmay
      by_cases h0 : j = 0
      · rw [if_pos h0] at hmay
        have HM := Lib.hid hmay
        have H0 := Lib.hid h0
        subst h0
        clear hmay
        go_wp2_with (first | (go_at_call 13; refine HM.out.mono ?_; rintro e w1 ⟨rfl, hb1⟩; have HB1 := Lib.hid (HB.out.trans (hb1.mono HB.out.size)); clear hb1) | (go_at_call 12; refine (num8_any _ _).mono ?_; rintro e w2 ⟨rfl, rfl⟩) | (go_at_call 8; refine (awake8_any _).mono ?_; rintro e w3 ⟨rfl, hb3⟩; have HB3 := Lib.hid (HB1.out.trans (hb3.mono HB1.out.size)); clear hb3))
        go_ret
        exact ⟨rfl, HB3.out⟩
      · rw [if_neg h0] at hmay
        have i1 : (1 : Int) ≤ (j : Int) := by omega
        have i2 : ((j : Int) == 0) = false := by simp; omega
        by_cases h32 : 32 < j
        · rw [if_pos h32] at hmay
          have i3 : (32 : Int) < (j : Int) := by omega
          have HM := Lib.hid hmay
          clear hmay
          go_wp2_with (first | (go_at_call 13; refine HM.out.mono ?_; rintro e w1 ⟨rfl, hb1⟩; have HB1 := Lib.hid (HB.out.trans (hb1.mono HB.out.size)); clear hb1) | (go_at_call 12; refine (num8_any _ _).mono ?_; rintro e w2 ⟨rfl, rfl⟩) | (go_at_call 8; refine (awake8_any _).mono ?_; rintro e w3 ⟨rfl, hb3⟩; have HB3 := Lib.hid (HB1.out.trans (hb3.mono HB1.out.size)); clear hb3))
          go_ret
          exact ⟨rfl, HB3.out⟩
        · rw [if_neg h32] at hmay
          have i3 : (j : Int) ≤ 32 := by omega
          obtain ⟨i, hi, hij⟩ := rem_nat (a := at_) j (by omega) (by omega)
          have HM := Lib.hid hmay
          have hij2 : (i : Int) < (j : Int) := by omega
          have hi0 : (0 : Int) ≤ (i : Int) := by omega
          obtain ⟨g, gcap, hgv, _, _, hg1, hg2, hgc, hgf⟩ := HU.out.where_ (by intro h; have := congrArg List.length h; simp at this; omega)
          cases hgv
          clear hmay
          go_upto_region 13 with (first | (go_at_call 13; refine HM.out.mono ?_; rintro e w1 ⟨rfl, hb1⟩; have HB1 := Lib.hid (HB.out.trans (hb1.mono HB.out.size)); have HBW := Lib.hid hb1; clear hb1) | (go_at_call 12; refine (num8_any _ _).mono ?_; rintro e w2 ⟨rfl, rfl⟩))
          have HO1 := Lib.hid (OwnO.below HU.out HBW.out (Nat.le_refl _))
          have hlen : i < (List.replicate j kvO).length := by rw [List.length_replicate]; exact hij
          obtain ⟨x0, x1, x2⟩ := hgc i hlen
          have y0 := (HBW.out.cell (p := ⟨g, i * 3, none⟩) hg2).trans x0
          have y1 := (HBW.out.cell (p := ⟨g, i * 3 + 1, none⟩) hg2).trans x1
          have y2 := (HBW.out.cell (p := ⟨g, i * 3 + 2, none⟩) hg2).trans x2
          have z0 := (HBW.out.frozen (p := ⟨g, i * 3, none⟩) hg2).trans (hgf _)
          have z1 := (HBW.out.frozen (p := ⟨g, i * 3 + 1, none⟩) hg2).trans (hgf _)
          have z2 := (HBW.out.frozen (p := ⟨g, i * 3 + 2, none⟩) hg2).trans (hgf _)
          have hgw : g < w1.heap.size := Nat.lt_of_lt_of_le hg2 HBW.out.size
          clear x0 x1 x2 hgc hgf
          have mk1 := zeros_run mk (by omega)
          have hwkind : IntKind.i64.wrap kind = kind := IntWalk.i64_in _ (by omega)
          have hwkey : IntKind.i64.wrap key = key := IntWalk.i64_in _ (by omega)
          have hwval : IntKind.i64.wrap val = val := IntWalk.i64_in _ (by omega)
          have mk2 := zeros_run mv (by omega)
          refine wp_region_fork (fun wz => Below w1.heap.size w1 wz) (fun wz => Below W.heap.size W wz) [(0, 0), (0, 1), (0, 2), (0, 3), (0, 4), (0, 5), (0, 6), (0, 7), (0, 10), (0, 11), (0, 12)] 8 13 [(0, 9), (2, 13), (0, 14), (0, 15), (0, 16), (3, 17)] [(0, 14), (2, 8), (0, 9), (0, 15), (0, 16), (3, 17)] [17] (by kernel_rfl) (by kernel_rfl) (by kernel_rfl) (by kernel_rfl) (by kernel_rfl) (Below.refl _ _).drew HB1.out.drew ?_
          simp only [planT, List.drop_succ_cons, List.drop_zero]
          refine ForkV.take (v := ?vt0) (by kernel_rfl) ?yt0 ?rt0
          case yt0 => (intro wz hz; go_simp; try with_reducible rfl)
          (try simp only [Act.put, List.setIfInBounds_toArray, List.set_cons_zero, List.set_cons_succ])
          refine ForkV.take (v := ?vt1) (by kernel_rfl) ?yt1 ?rt1
          case yt1 => (intro wz hz; go_simp; try with_reducible rfl)
          (try simp only [Act.put, List.setIfInBounds_toArray, List.set_cons_zero, List.set_cons_succ])
          refine ForkV.take (v := ?vt2) (by kernel_rfl) ?yt2 ?rt2
          case yt2 => (intro wz hz; go_simp; try with_reducible rfl)
          (try simp only [Act.put, List.setIfInBounds_toArray, List.set_cons_zero, List.set_cons_succ])
          refine ForkV.take (v := .int .i64 kind) (by kernel_rfl) ?yt3 ?rt3
          case yt3 => (intro wz hz; go_simp)
          (try simp only [Act.put, List.setIfInBounds_toArray, List.set_cons_zero, List.set_cons_succ])
          refine ForkV.take (v := .int .i64 (kd : Int)) (by kernel_rfl) ?yt4 ?rt4
          case yt4 => (intro wz hz; go_simp)
          (try simp only [Act.put, List.setIfInBounds_toArray, List.set_cons_zero, List.set_cons_succ])
          refine ForkV.take (v := ?vt5) (by kernel_rfl) ?yt5 ?rt5
          case yt5 => (intro wz hz; go_simp; try with_reducible rfl)
          (try simp only [Act.put, List.setIfInBounds_toArray, List.set_cons_zero, List.set_cons_succ])
          refine ForkV.take (v := .int .i64 key) (by kernel_rfl) ?yt6 ?rt6
          case yt6 => (intro wz hz; go_simp)
          (try simp only [Act.put, List.setIfInBounds_toArray, List.set_cons_zero, List.set_cons_succ])
          refine ForkV.take (v := .int .i64 (mk : Int)) (by kernel_rfl) ?yt7 ?rt7
          case yt7 => (intro wz hz; go_simp)
          (try simp only [Act.put, List.setIfInBounds_toArray, List.set_cons_zero, List.set_cons_succ])
          refine ForkV.take (v := ?vt10) (by kernel_rfl) ?yt10 ?rt10
          case yt10 => (intro wz hz; go_simp; try with_reducible rfl)
          (try simp only [Act.put, List.setIfInBounds_toArray, List.set_cons_zero, List.set_cons_succ])
          refine ForkV.take (v := .int .i64 val) (by kernel_rfl) ?yt11 ?rt11
          case yt11 => (intro wz hz; go_simp)
          (try simp only [Act.put, List.setIfInBounds_toArray, List.set_cons_zero, List.set_cons_succ])
          refine ForkV.take (v := .int .i64 (mv : Int)) (by kernel_rfl) ?yt12 ?rt12
          case yt12 => (intro wz hz; go_simp)
          (try simp only [Act.put, List.setIfInBounds_toArray, List.set_cons_zero, List.set_cons_succ])
          refine ForkV.both ?_ ?_
          · skip
            refine PlanV.exec2 (fun K hK => ⟨by kernel_rfl, ?_⟩)
            go_simp
            obtain ⟨u1, hu1⟩ : ∃ u1, u1 = (w1.alloc (.cells (madeCells #[.int .u8 0] mk) 5)).drew := ⟨_, rfl⟩
            rw [← hu1]
            have hf1 : RdB u1 (.slice (some ⟨w1.heap.size, 0, none⟩) mk mk) (List.replicate mk 0) := by rw [hu1]; exact (fresh_zeros w1 mk (by omega)).drew
            have hc1 : Below w1.heap.size w1 u1 := by rw [hu1]; exact ((Below.refl _ _).alloc (Nat.le_refl _) _).drew
            have HF1 := Lib.hid hf1
            have HC1 := Lib.hid hc1
            clear hu1 hf1 hc1
            refine hK.out _ _ (fun z => Below u1.heap.size u1 z) HC1.out (Below.refl _ _) (HB1.out.trans (HC1.out.mono HB1.out.size)) ?_
            clear hK K
            (try simp only [Act.put, List.setIfInBounds_toArray, List.set_cons_zero, List.set_cons_succ])
            refine PlanV.take0 (v := .string (zS mk)) (by kernel_rfl) ?ya9 ?ra9
            case ya9 => (intro wz hz; have q := rdB_convert (P := Try.prog) (RdB.below HF1.out hz.2 (Nat.le_refl _)) 25 5 9 Try.underlying25 Try.underlying5 Try.underlying9; go_simp)
            (try simp only [Act.put, List.setIfInBounds_toArray, List.set_cons_zero, List.set_cons_succ])
            refine PlanV.exec2 (fun K hK => ⟨by kernel_rfl, ?_⟩)
            go_simp
            obtain ⟨u2, hu2⟩ : ∃ u2, u2 = (u1.alloc (.cells (madeCells #[.int .u8 0] mv) 5)) := ⟨_, rfl⟩
            rw [← hu2]
            have hf2 : RdB u2 (.slice (some ⟨u1.heap.size, 0, none⟩) mv mv) (List.replicate mv 0) := by rw [hu2]; exact (fresh_zeros u1 mv (by omega))
            have hc2 : Below u1.heap.size u1 u2 := by rw [hu2]; exact ((Below.refl _ _).alloc (Nat.le_refl _) _)
            have HF2 := Lib.hid hf2
            have HC2 := Lib.hid hc2
            clear hu2 hf2 hc2
            refine hK.out _ _ (fun z => Below u2.heap.size u2 z) ⟨HC1.out.trans (HC2.out.mono HC1.out.size), HC2.out⟩ (Below.refl _ _) (HB1.out.trans ((HC1.out.trans (HC2.out.mono HC1.out.size)).mono HB1.out.size)) ?_
            clear hK K
            (try simp only [Act.put, List.setIfInBounds_toArray, List.set_cons_zero, List.set_cons_succ])
            refine PlanV.take0 (v := .string (zS mv)) (by kernel_rfl) ?ya14 ?ra14
            case ya14 => (intro wz hz; have q := rdB_convert (P := Try.prog) (RdB.below HF2.out hz.2 (Nat.le_refl _)) 25 5 9 Try.underlying25 Try.underlying5 Try.underlying9; go_simp)
            (try simp only [Act.put, List.setIfInBounds_toArray, List.set_cons_zero, List.set_cons_succ])
            refine PlanV.take0 (v := ?va15) (by kernel_rfl) ?ya15 ?ra15
            case ya15 => (intro wz hz; go_simp; try with_reducible rfl)
            (try simp only [Act.put, List.setIfInBounds_toArray, List.set_cons_zero, List.set_cons_succ])
            refine PlanV.take0 (v := ?va16) (by kernel_rfl) ?ya16 ?ra16
            case ya16 => (intro wz hz; go_simp; try with_reducible rfl)
            (try simp only [Act.put, List.setIfInBounds_toArray, List.set_cons_zero, List.set_cons_succ])
            have HC := Lib.hid (HC1.out.trans (HC2.out.mono HC1.out.size))
            have p0 := (HC.out.cell (p := ⟨g, i * 3, none⟩) hgw).trans y0
            have r0 := (HC.out.frozen (p := ⟨g, i * 3, none⟩) hgw).trans z0
            have p1 := (HC.out.cell (p := ⟨g, i * 3 + 1, none⟩) hgw).trans y1
            have r1 := (HC.out.frozen (p := ⟨g, i * 3 + 1, none⟩) hgw).trans z1
            have p2 := (HC.out.cell (p := ⟨g, i * 3 + 2, none⟩) hgw).trans y2
            have r2 := (HC.out.frozen (p := ⟨g, i * 3 + 2, none⟩) hgw).trans z2
            have HO2 := Lib.hid (OwnO.stored (OwnO.below HO1.out HC.out (Nat.le_refl _)) i hlen ⟨(kd : Int), zS mk, zS mv⟩)
            skip
            refine PlanV.exec3 (fun K hK => ⟨by kernel_rfl, ?_⟩)
            go_simp
            obtain ⟨u3, hu3⟩ : ∃ u3, u3 = (((u2.setCell ⟨g, i * 3, none⟩ (.int .i64 (kd : Int))).setCell ⟨g, i * 3 + 1, none⟩ (.string (zS mk))).setCell ⟨g, i * 3 + 2, none⟩ (.string (zS mv))) := ⟨_, rfl⟩
            rw [← hu3]
            have hbe : Below W.heap.size W u3 := by rw [hu3]; exact ((((HB1.out.trans (HC.out.mono HB1.out.size)).setCell hg1 (.int .i64 (kd : Int))).setCell hg1 (.string (zS mk))).setCell hg1 (.string (zS mv)))
            have ho3 : OwnO u3 W.heap.size 45 (.slice (some ⟨g, 0, none⟩) j ucap) ((List.replicate j kvO).set i ⟨(kd : Int), zS mk, zS mv⟩) := by have h := HO2.out; simp only [List.length_set, List.length_replicate] at h; rw [hu3]; exact h
            clear hu3
            refine hK.out _ _ hbe ?_
            clear hK K
            (try simp only [Act.put, List.setIfInBounds_toArray, List.set_cons_zero, List.set_cons_succ])
            refine PlanV.done (NoPanic.normal ?_)
            have hfo : (⟨(kd : Int), zS mk, zS mv⟩ : Ope).fits := ⟨kd_wf kd hkd4, by unfold maxLen; rw [zS_size]; omega, by unfold maxLen; rw [zS_size]; omega⟩
            have hrd := ho3.read (kvs_set_fits hfo)
            have hmay2 := bmay_any (.slice (some ⟨g, 0, none⟩) j ucap) ((List.replicate j kvO).set i ⟨(kd : Int), zS mk, zS mv⟩) u3 hrd
            rw [kvs_set _ (by omega) (by omega) hij] at hmay2
            skip
            have hlen3 : i < ((List.replicate j kvO).set i ⟨(kd : Int), zS mk, zS mv⟩).length := by rw [List.length_set, List.length_replicate]; exact hij
            have hget : ((List.replicate j kvO).set i ⟨(kd : Int), zS mk, zS mv⟩).getD i Ope.none_ = ⟨(kd : Int), zS mk, zS mv⟩ := by simp [List.getD, hij]
            have HM2 := Lib.hid hmay2
            obtain ⟨g', cap', hgv', _, _, hg1', hg2', hgc', _⟩ := ho3.where_ (by intro h; rw [h] at hlen3; simp at hlen3)
            rw [List.length_set, List.length_replicate] at hgv'
            cases hgv'
            obtain ⟨v0, v1, v2⟩ := hgc' i hlen3
            rw [hget] at v0 v1 v2
            simp only at v0 v1 v2
            have V0 := Lib.hid v0
            have V1 := Lib.hid v1
            have V2 := Lib.hid v2
            have HBE := Lib.hid hbe
            have HS1 := zS_size mk
            have HS2 := zS_size mv
            have hkk : (kd : Int) = 0 ∨ (kd : Int) = 1 ∨ (kd : Int) = 2 ∨ (kd : Int) = 3 := by omega
            clear hmay2 hrd ho3 hgc' hget v0 v1 v2 hbe hfo mk1 mk2 p0 p1 p2 r0 r1 r2 HF1 HF2 hkd hwkind y0 y1 y2 HO2
            generalize zS mk = sk at *
            generalize zS mv = sv at *
            generalize (kd : Int) = kq at *
            have E := @empty_size sv
            rcases hkk with rfl | rfl | rfl | rfl
            · skip
              have hm := HM2.out
              rw [← mayO_kind (o := ⟨0, sk, sv⟩) (show (0 : Int) ≠ 1 by decide) (show (0 : Int) ≠ 2 by decide)] at hm
              have HM3 := Lib.hid hm
              clear hm
              go_wp2_with (first | (go_at_call 13; refine HM3.out.mono ?_; rintro e w4 ⟨rfl, hb4⟩; have n0 := (hb4.cell (p := ⟨g, i * 3, none⟩) hg2').trans V0.out; have n1 := (hb4.cell (p := ⟨g, i * 3 + 1, none⟩) hg2').trans V1.out; have n2 := (hb4.cell (p := ⟨g, i * 3 + 2, none⟩) hg2').trans V2.out; have HB4 := Lib.hid (HBE.out.trans (hb4.mono HBE.out.size)); clear hb4) | (go_at_call 12; refine (num8_any _ _).mono ?_; rintro e w5 ⟨rfl, rfl⟩) | (go_at_call 8; refine (awake8_any _).mono ?_; rintro e w6 ⟨rfl, hb6⟩; have HB6 := Lib.hid (HB4.out.trans (hb6.mono HB4.out.size)); clear hb6))
              go_ret
              exact ⟨by simp, HB6.out⟩
            · skip
              by_cases h1 : 64 < sk.size
              · skip
                have e1 : (64 : Int) < (sk.size : Int) := by omega
                have hm := HM2.out
                rw [← mayO_large (o := ⟨1, sk, sv⟩) (show (1 : Int) = 1 ∨ (1 : Int) = 2 by decide) (.inl h1)] at hm
                have HM3 := Lib.hid hm
                clear hm
                go_wp2_with (first | (go_at_call 13; refine HM3.out.mono ?_; rintro e w4 ⟨rfl, hb4⟩; have n0 := (hb4.cell (p := ⟨g, i * 3, none⟩) hg2').trans V0.out; have n1 := (hb4.cell (p := ⟨g, i * 3 + 1, none⟩) hg2').trans V1.out; have n2 := (hb4.cell (p := ⟨g, i * 3 + 2, none⟩) hg2').trans V2.out; have HB4 := Lib.hid (HBE.out.trans (hb4.mono HBE.out.size)); clear hb4) | (go_at_call 12; refine (num8_any _ _).mono ?_; rintro e w5 ⟨rfl, rfl⟩) | (go_at_call 8; refine (awake8_any _).mono ?_; rintro e w6 ⟨rfl, hb6⟩; have HB6 := Lib.hid (HB4.out.trans (hb6.mono HB4.out.size)); clear hb6))
                go_ret
                exact ⟨by simp, HB6.out⟩
              · by_cases h2 : 512 < sv.size
                · skip
                  have e1 : (sk.size : Int) ≤ 64 := by omega
                  have e2 : (512 : Int) < (sv.size : Int) := by omega
                  have hm := HM2.out
                  rw [← mayO_large (o := ⟨1, sk, sv⟩) (show (1 : Int) = 1 ∨ (1 : Int) = 2 by decide) (.inr h2)] at hm
                  have HM3 := Lib.hid hm
                  clear hm
                  go_wp2_with (first | (go_at_call 13; refine HM3.out.mono ?_; rintro e w4 ⟨rfl, hb4⟩; have n0 := (hb4.cell (p := ⟨g, i * 3, none⟩) hg2').trans V0.out; have n1 := (hb4.cell (p := ⟨g, i * 3 + 1, none⟩) hg2').trans V1.out; have n2 := (hb4.cell (p := ⟨g, i * 3 + 2, none⟩) hg2').trans V2.out; have HB4 := Lib.hid (HBE.out.trans (hb4.mono HBE.out.size)); clear hb4) | (go_at_call 12; refine (num8_any _ _).mono ?_; rintro e w5 ⟨rfl, rfl⟩) | (go_at_call 8; refine (awake8_any _).mono ?_; rintro e w6 ⟨rfl, hb6⟩; have HB6 := Lib.hid (HB4.out.trans (hb6.mono HB4.out.size)); clear hb6))
                  go_ret
                  exact ⟨by simp, HB6.out⟩
                · skip
                  have e1 : (sk.size : Int) ≤ 64 := by omega
                  have e2 : (sv.size : Int) ≤ 512 := by omega
                  have hm := HM2.out
                  rw [← mayO_ok (o := ⟨1, sk, sv⟩) (.inl rfl) (by simp only; omega) (by simp only; omega) (.inl rfl)] at hm
                  have HM3 := Lib.hid hm
                  clear hm
                  go_wp2_with (first | (go_at_call 13; refine HM3.out.mono ?_; rintro e w4 ⟨rfl, hb4⟩; have n0 := (hb4.cell (p := ⟨g, i * 3, none⟩) hg2').trans V0.out; have n1 := (hb4.cell (p := ⟨g, i * 3 + 1, none⟩) hg2').trans V1.out; have n2 := (hb4.cell (p := ⟨g, i * 3 + 2, none⟩) hg2').trans V2.out; have HB4 := Lib.hid (HBE.out.trans (hb4.mono HBE.out.size)); clear hb4) | (go_at_call 12; refine (num8_any _ _).mono ?_; rintro e w5 ⟨rfl, rfl⟩) | (go_at_call 8; refine (awake8_any _).mono ?_; rintro e w6 ⟨rfl, hb6⟩; have HB6 := Lib.hid (HB4.out.trans (hb6.mono HB4.out.size)); clear hb6))
                  go_ret
                  exact ⟨by simp, HB6.out⟩
            · skip
              by_cases h1 : 64 < sk.size
              · skip
                have e1 : (64 : Int) < (sk.size : Int) := by omega
                have hm := HM2.out
                rw [← mayO_large (o := ⟨2, sk, sv⟩) (show (2 : Int) = 1 ∨ (2 : Int) = 2 by decide) (.inl h1)] at hm
                have HM3 := Lib.hid hm
                clear hm
                go_wp2_with (first | (go_at_call 13; refine HM3.out.mono ?_; rintro e w4 ⟨rfl, hb4⟩; have n0 := (hb4.cell (p := ⟨g, i * 3, none⟩) hg2').trans V0.out; have n1 := (hb4.cell (p := ⟨g, i * 3 + 1, none⟩) hg2').trans V1.out; have n2 := (hb4.cell (p := ⟨g, i * 3 + 2, none⟩) hg2').trans V2.out; have HB4 := Lib.hid (HBE.out.trans (hb4.mono HBE.out.size)); clear hb4) | (go_at_call 12; refine (num8_any _ _).mono ?_; rintro e w5 ⟨rfl, rfl⟩) | (go_at_call 8; refine (awake8_any _).mono ?_; rintro e w6 ⟨rfl, hb6⟩; have HB6 := Lib.hid (HB4.out.trans (hb6.mono HB4.out.size)); clear hb6))
                go_ret
                exact ⟨by simp, HB6.out⟩
              · by_cases h2 : 512 < sv.size
                · skip
                  have e1 : (sk.size : Int) ≤ 64 := by omega
                  have e2 : (512 : Int) < (sv.size : Int) := by omega
                  have hm := HM2.out
                  rw [← mayO_large (o := ⟨2, sk, sv⟩) (show (2 : Int) = 1 ∨ (2 : Int) = 2 by decide) (.inr h2)] at hm
                  have HM3 := Lib.hid hm
                  clear hm
                  go_wp2_with (first | (go_at_call 13; refine HM3.out.mono ?_; rintro e w4 ⟨rfl, hb4⟩; have n0 := (hb4.cell (p := ⟨g, i * 3, none⟩) hg2').trans V0.out; have n1 := (hb4.cell (p := ⟨g, i * 3 + 1, none⟩) hg2').trans V1.out; have n2 := (hb4.cell (p := ⟨g, i * 3 + 2, none⟩) hg2').trans V2.out; have HB4 := Lib.hid (HBE.out.trans (hb4.mono HBE.out.size)); clear hb4) | (go_at_call 12; refine (num8_any _ _).mono ?_; rintro e w5 ⟨rfl, rfl⟩) | (go_at_call 8; refine (awake8_any _).mono ?_; rintro e w6 ⟨rfl, hb6⟩; have HB6 := Lib.hid (HB4.out.trans (hb6.mono HB4.out.size)); clear hb6))
                  go_ret
                  exact ⟨by simp, HB6.out⟩
                · by_cases h3 : sv.size = 0
                  · have h4 : sv.toList.isEmpty = true := by rw [E]; exact decide_eq_true h3
                    clear E
                    have e1 : (sk.size : Int) ≤ 64 := by omega
                    have e2 : (sv.size : Int) ≤ 512 := by omega
                    skip
                    have hm := HM2.out
                    rw [← mayO_ok (o := ⟨2, sk, sv⟩) (.inr rfl) (by simp only; omega) (by simp only; omega) (.inr h3)] at hm
                    have HM3 := Lib.hid hm
                    clear hm
                    go_wp2_with (first | (go_at_call 13; refine HM3.out.mono ?_; rintro e w4 ⟨rfl, hb4⟩; have n0 := (hb4.cell (p := ⟨g, i * 3, none⟩) hg2').trans V0.out; have n1 := (hb4.cell (p := ⟨g, i * 3 + 1, none⟩) hg2').trans V1.out; have n2 := (hb4.cell (p := ⟨g, i * 3 + 2, none⟩) hg2').trans V2.out; have HB4 := Lib.hid (HBE.out.trans (hb4.mono HBE.out.size)); clear hb4) | (go_at_call 12; refine (num8_any _ _).mono ?_; rintro e w5 ⟨rfl, rfl⟩) | (go_at_call 8; refine (awake8_any _).mono ?_; rintro e w6 ⟨rfl, hb6⟩; have HB6 := Lib.hid (HB4.out.trans (hb6.mono HB4.out.size)); clear hb6))
                    go_ret
                    exact ⟨by simp, HB6.out⟩
                  · have h4 : sv.toList.isEmpty = false := by rw [E]; exact decide_eq_false h3
                    clear E
                    have e1 : (sk.size : Int) ≤ 64 := by omega
                    have e2 : (sv.size : Int) ≤ 512 := by omega
                    have hm := HM2.out
                    rw [← mayO_del (o := ⟨2, sk, sv⟩) rfl (by simp only; omega) (by simp only; omega) h3] at hm
                    have HM3 := Lib.hid hm
                    clear hm
                    go_wp2_with (first | (go_at_call 13; refine HM3.out.mono ?_; rintro e w4 ⟨rfl, hb4⟩; have n0 := (hb4.cell (p := ⟨g, i * 3, none⟩) hg2').trans V0.out; have n1 := (hb4.cell (p := ⟨g, i * 3 + 1, none⟩) hg2').trans V1.out; have n2 := (hb4.cell (p := ⟨g, i * 3 + 2, none⟩) hg2').trans V2.out; have HB4 := Lib.hid (HBE.out.trans (hb4.mono HBE.out.size)); clear hb4) | (go_at_call 12; refine (num8_any _ _).mono ?_; rintro e w5 ⟨rfl, rfl⟩) | (go_at_call 8; refine (awake8_any _).mono ?_; rintro e w6 ⟨rfl, hb6⟩; have HB6 := Lib.hid (HB4.out.trans (hb6.mono HB4.out.size)); clear hb6))
                    go_ret
                    exact ⟨by simp, HB6.out⟩
            · skip
              have hm := HM2.out
              rw [← mayO_kind (o := ⟨3, sk, sv⟩) (show (3 : Int) ≠ 1 by decide) (show (3 : Int) ≠ 2 by decide)] at hm
              have HM3 := Lib.hid hm
              clear hm
              go_wp2_with (first | (go_at_call 13; refine HM3.out.mono ?_; rintro e w4 ⟨rfl, hb4⟩; have n0 := (hb4.cell (p := ⟨g, i * 3, none⟩) hg2').trans V0.out; have n1 := (hb4.cell (p := ⟨g, i * 3 + 1, none⟩) hg2').trans V1.out; have n2 := (hb4.cell (p := ⟨g, i * 3 + 2, none⟩) hg2').trans V2.out; have HB4 := Lib.hid (HBE.out.trans (hb4.mono HBE.out.size)); clear hb4) | (go_at_call 12; refine (num8_any _ _).mono ?_; rintro e w5 ⟨rfl, rfl⟩) | (go_at_call 8; refine (awake8_any _).mono ?_; rintro e w6 ⟨rfl, hb6⟩; have HB6 := Lib.hid (HB4.out.trans (hb6.mono HB4.out.size)); clear hb6))
              go_ret
              exact ⟨by simp, HB6.out⟩
          · skip
            refine PlanV.exec2 (fun K hK => ⟨by kernel_rfl, ?_⟩)
            go_simp
            obtain ⟨u1, hu1⟩ : ∃ u1, u1 = (w1.alloc (.cells (madeCells #[.int .u8 0] mv) 5)).drew := ⟨_, rfl⟩
            rw [← hu1]
            have hf1 : RdB u1 (.slice (some ⟨w1.heap.size, 0, none⟩) mv mv) (List.replicate mv 0) := by rw [hu1]; exact (fresh_zeros w1 mv (by omega)).drew
            have hc1 : Below w1.heap.size w1 u1 := by rw [hu1]; exact ((Below.refl _ _).alloc (Nat.le_refl _) _).drew
            have HF1 := Lib.hid hf1
            have HC1 := Lib.hid hc1
            clear hu1 hf1 hc1
            refine hK.out _ _ (fun z => Below u1.heap.size u1 z) HC1.out (Below.refl _ _) (HB1.out.trans (HC1.out.mono HB1.out.size)) ?_
            clear hK K
            (try simp only [Act.put, List.setIfInBounds_toArray, List.set_cons_zero, List.set_cons_succ])
            refine PlanV.take0 (v := .string (zS mv)) (by kernel_rfl) ?yb14 ?rb14
            case yb14 => (intro wz hz; have q := rdB_convert (P := Try.prog) (RdB.below HF1.out hz.2 (Nat.le_refl _)) 25 5 9 Try.underlying25 Try.underlying5 Try.underlying9; go_simp)
            (try simp only [Act.put, List.setIfInBounds_toArray, List.set_cons_zero, List.set_cons_succ])
            refine PlanV.exec2 (fun K hK => ⟨by kernel_rfl, ?_⟩)
            go_simp
            obtain ⟨u2, hu2⟩ : ∃ u2, u2 = (u1.alloc (.cells (madeCells #[.int .u8 0] mk) 5)) := ⟨_, rfl⟩
            rw [← hu2]
            have hf2 : RdB u2 (.slice (some ⟨u1.heap.size, 0, none⟩) mk mk) (List.replicate mk 0) := by rw [hu2]; exact (fresh_zeros u1 mk (by omega))
            have hc2 : Below u1.heap.size u1 u2 := by rw [hu2]; exact ((Below.refl _ _).alloc (Nat.le_refl _) _)
            have HF2 := Lib.hid hf2
            have HC2 := Lib.hid hc2
            clear hu2 hf2 hc2
            refine hK.out _ _ (fun z => Below u2.heap.size u2 z) ⟨HC1.out.trans (HC2.out.mono HC1.out.size), HC2.out⟩ (Below.refl _ _) (HB1.out.trans ((HC1.out.trans (HC2.out.mono HC1.out.size)).mono HB1.out.size)) ?_
            clear hK K
            (try simp only [Act.put, List.setIfInBounds_toArray, List.set_cons_zero, List.set_cons_succ])
            refine PlanV.take0 (v := .string (zS mk)) (by kernel_rfl) ?yb9 ?rb9
            case yb9 => (intro wz hz; have q := rdB_convert (P := Try.prog) (RdB.below HF2.out hz.2 (Nat.le_refl _)) 25 5 9 Try.underlying25 Try.underlying5 Try.underlying9; go_simp)
            (try simp only [Act.put, List.setIfInBounds_toArray, List.set_cons_zero, List.set_cons_succ])
            refine PlanV.take0 (v := ?vb15) (by kernel_rfl) ?yb15 ?rb15
            case yb15 => (intro wz hz; go_simp; try with_reducible rfl)
            (try simp only [Act.put, List.setIfInBounds_toArray, List.set_cons_zero, List.set_cons_succ])
            refine PlanV.take0 (v := ?vb16) (by kernel_rfl) ?yb16 ?rb16
            case yb16 => (intro wz hz; go_simp; try with_reducible rfl)
            (try simp only [Act.put, List.setIfInBounds_toArray, List.set_cons_zero, List.set_cons_succ])
            have HC := Lib.hid (HC1.out.trans (HC2.out.mono HC1.out.size))
            have p0 := (HC.out.cell (p := ⟨g, i * 3, none⟩) hgw).trans y0
            have r0 := (HC.out.frozen (p := ⟨g, i * 3, none⟩) hgw).trans z0
            have p1 := (HC.out.cell (p := ⟨g, i * 3 + 1, none⟩) hgw).trans y1
            have r1 := (HC.out.frozen (p := ⟨g, i * 3 + 1, none⟩) hgw).trans z1
            have p2 := (HC.out.cell (p := ⟨g, i * 3 + 2, none⟩) hgw).trans y2
            have r2 := (HC.out.frozen (p := ⟨g, i * 3 + 2, none⟩) hgw).trans z2
            have HO2 := Lib.hid (OwnO.stored (OwnO.below HO1.out HC.out (Nat.le_refl _)) i hlen ⟨(kd : Int), zS mk, zS mv⟩)
            skip
            refine PlanV.exec3 (fun K hK => ⟨by kernel_rfl, ?_⟩)
            go_simp
            obtain ⟨u3, hu3⟩ : ∃ u3, u3 = (((u2.setCell ⟨g, i * 3, none⟩ (.int .i64 (kd : Int))).setCell ⟨g, i * 3 + 1, none⟩ (.string (zS mk))).setCell ⟨g, i * 3 + 2, none⟩ (.string (zS mv))) := ⟨_, rfl⟩
            rw [← hu3]
            have hbe : Below W.heap.size W u3 := by rw [hu3]; exact ((((HB1.out.trans (HC.out.mono HB1.out.size)).setCell hg1 (.int .i64 (kd : Int))).setCell hg1 (.string (zS mk))).setCell hg1 (.string (zS mv)))
            have ho3 : OwnO u3 W.heap.size 45 (.slice (some ⟨g, 0, none⟩) j ucap) ((List.replicate j kvO).set i ⟨(kd : Int), zS mk, zS mv⟩) := by have h := HO2.out; simp only [List.length_set, List.length_replicate] at h; rw [hu3]; exact h
            clear hu3
            refine hK.out _ _ hbe ?_
            clear hK K
            (try simp only [Act.put, List.setIfInBounds_toArray, List.set_cons_zero, List.set_cons_succ])
            refine PlanV.done (NoPanic.normal ?_)
            have hfo : (⟨(kd : Int), zS mk, zS mv⟩ : Ope).fits := ⟨kd_wf kd hkd4, by unfold maxLen; rw [zS_size]; omega, by unfold maxLen; rw [zS_size]; omega⟩
            have hrd := ho3.read (kvs_set_fits hfo)
            have hmay2 := bmay_any (.slice (some ⟨g, 0, none⟩) j ucap) ((List.replicate j kvO).set i ⟨(kd : Int), zS mk, zS mv⟩) u3 hrd
            rw [kvs_set _ (by omega) (by omega) hij] at hmay2
            skip
            have hlen3 : i < ((List.replicate j kvO).set i ⟨(kd : Int), zS mk, zS mv⟩).length := by rw [List.length_set, List.length_replicate]; exact hij
            have hget : ((List.replicate j kvO).set i ⟨(kd : Int), zS mk, zS mv⟩).getD i Ope.none_ = ⟨(kd : Int), zS mk, zS mv⟩ := by simp [List.getD, hij]
            have HM2 := Lib.hid hmay2
            obtain ⟨g', cap', hgv', _, _, hg1', hg2', hgc', _⟩ := ho3.where_ (by intro h; rw [h] at hlen3; simp at hlen3)
            rw [List.length_set, List.length_replicate] at hgv'
            cases hgv'
            obtain ⟨v0, v1, v2⟩ := hgc' i hlen3
            rw [hget] at v0 v1 v2
            simp only at v0 v1 v2
            have V0 := Lib.hid v0
            have V1 := Lib.hid v1
            have V2 := Lib.hid v2
            have HBE := Lib.hid hbe
            have HS1 := zS_size mk
            have HS2 := zS_size mv
            have hkk : (kd : Int) = 0 ∨ (kd : Int) = 1 ∨ (kd : Int) = 2 ∨ (kd : Int) = 3 := by omega
            clear hmay2 hrd ho3 hgc' hget v0 v1 v2 hbe hfo mk1 mk2 p0 p1 p2 r0 r1 r2 HF1 HF2 hkd hwkind y0 y1 y2 HO2
            generalize zS mk = sk at *
            generalize zS mv = sv at *
            generalize (kd : Int) = kq at *
            have E := @empty_size sv
            rcases hkk with rfl | rfl | rfl | rfl
            · skip
              have hm := HM2.out
              rw [← mayO_kind (o := ⟨0, sk, sv⟩) (show (0 : Int) ≠ 1 by decide) (show (0 : Int) ≠ 2 by decide)] at hm
              have HM3 := Lib.hid hm
              clear hm
              go_wp2_with (first | (go_at_call 13; refine HM3.out.mono ?_; rintro e w4 ⟨rfl, hb4⟩; have n0 := (hb4.cell (p := ⟨g, i * 3, none⟩) hg2').trans V0.out; have n1 := (hb4.cell (p := ⟨g, i * 3 + 1, none⟩) hg2').trans V1.out; have n2 := (hb4.cell (p := ⟨g, i * 3 + 2, none⟩) hg2').trans V2.out; have HB4 := Lib.hid (HBE.out.trans (hb4.mono HBE.out.size)); clear hb4) | (go_at_call 12; refine (num8_any _ _).mono ?_; rintro e w5 ⟨rfl, rfl⟩) | (go_at_call 8; refine (awake8_any _).mono ?_; rintro e w6 ⟨rfl, hb6⟩; have HB6 := Lib.hid (HB4.out.trans (hb6.mono HB4.out.size)); clear hb6))
              go_ret
              exact ⟨by simp, HB6.out⟩
            · skip
              by_cases h1 : 64 < sk.size
              · skip
                have e1 : (64 : Int) < (sk.size : Int) := by omega
                have hm := HM2.out
                rw [← mayO_large (o := ⟨1, sk, sv⟩) (show (1 : Int) = 1 ∨ (1 : Int) = 2 by decide) (.inl h1)] at hm
                have HM3 := Lib.hid hm
                clear hm
                go_wp2_with (first | (go_at_call 13; refine HM3.out.mono ?_; rintro e w4 ⟨rfl, hb4⟩; have n0 := (hb4.cell (p := ⟨g, i * 3, none⟩) hg2').trans V0.out; have n1 := (hb4.cell (p := ⟨g, i * 3 + 1, none⟩) hg2').trans V1.out; have n2 := (hb4.cell (p := ⟨g, i * 3 + 2, none⟩) hg2').trans V2.out; have HB4 := Lib.hid (HBE.out.trans (hb4.mono HBE.out.size)); clear hb4) | (go_at_call 12; refine (num8_any _ _).mono ?_; rintro e w5 ⟨rfl, rfl⟩) | (go_at_call 8; refine (awake8_any _).mono ?_; rintro e w6 ⟨rfl, hb6⟩; have HB6 := Lib.hid (HB4.out.trans (hb6.mono HB4.out.size)); clear hb6))
                go_ret
                exact ⟨by simp, HB6.out⟩
              · by_cases h2 : 512 < sv.size
                · skip
                  have e1 : (sk.size : Int) ≤ 64 := by omega
                  have e2 : (512 : Int) < (sv.size : Int) := by omega
                  have hm := HM2.out
                  rw [← mayO_large (o := ⟨1, sk, sv⟩) (show (1 : Int) = 1 ∨ (1 : Int) = 2 by decide) (.inr h2)] at hm
                  have HM3 := Lib.hid hm
                  clear hm
                  go_wp2_with (first | (go_at_call 13; refine HM3.out.mono ?_; rintro e w4 ⟨rfl, hb4⟩; have n0 := (hb4.cell (p := ⟨g, i * 3, none⟩) hg2').trans V0.out; have n1 := (hb4.cell (p := ⟨g, i * 3 + 1, none⟩) hg2').trans V1.out; have n2 := (hb4.cell (p := ⟨g, i * 3 + 2, none⟩) hg2').trans V2.out; have HB4 := Lib.hid (HBE.out.trans (hb4.mono HBE.out.size)); clear hb4) | (go_at_call 12; refine (num8_any _ _).mono ?_; rintro e w5 ⟨rfl, rfl⟩) | (go_at_call 8; refine (awake8_any _).mono ?_; rintro e w6 ⟨rfl, hb6⟩; have HB6 := Lib.hid (HB4.out.trans (hb6.mono HB4.out.size)); clear hb6))
                  go_ret
                  exact ⟨by simp, HB6.out⟩
                · skip
                  have e1 : (sk.size : Int) ≤ 64 := by omega
                  have e2 : (sv.size : Int) ≤ 512 := by omega
                  have hm := HM2.out
                  rw [← mayO_ok (o := ⟨1, sk, sv⟩) (.inl rfl) (by simp only; omega) (by simp only; omega) (.inl rfl)] at hm
                  have HM3 := Lib.hid hm
                  clear hm
                  go_wp2_with (first | (go_at_call 13; refine HM3.out.mono ?_; rintro e w4 ⟨rfl, hb4⟩; have n0 := (hb4.cell (p := ⟨g, i * 3, none⟩) hg2').trans V0.out; have n1 := (hb4.cell (p := ⟨g, i * 3 + 1, none⟩) hg2').trans V1.out; have n2 := (hb4.cell (p := ⟨g, i * 3 + 2, none⟩) hg2').trans V2.out; have HB4 := Lib.hid (HBE.out.trans (hb4.mono HBE.out.size)); clear hb4) | (go_at_call 12; refine (num8_any _ _).mono ?_; rintro e w5 ⟨rfl, rfl⟩) | (go_at_call 8; refine (awake8_any _).mono ?_; rintro e w6 ⟨rfl, hb6⟩; have HB6 := Lib.hid (HB4.out.trans (hb6.mono HB4.out.size)); clear hb6))
                  go_ret
                  exact ⟨by simp, HB6.out⟩
            · skip
              by_cases h1 : 64 < sk.size
              · skip
                have e1 : (64 : Int) < (sk.size : Int) := by omega
                have hm := HM2.out
                rw [← mayO_large (o := ⟨2, sk, sv⟩) (show (2 : Int) = 1 ∨ (2 : Int) = 2 by decide) (.inl h1)] at hm
                have HM3 := Lib.hid hm
                clear hm
                go_wp2_with (first | (go_at_call 13; refine HM3.out.mono ?_; rintro e w4 ⟨rfl, hb4⟩; have n0 := (hb4.cell (p := ⟨g, i * 3, none⟩) hg2').trans V0.out; have n1 := (hb4.cell (p := ⟨g, i * 3 + 1, none⟩) hg2').trans V1.out; have n2 := (hb4.cell (p := ⟨g, i * 3 + 2, none⟩) hg2').trans V2.out; have HB4 := Lib.hid (HBE.out.trans (hb4.mono HBE.out.size)); clear hb4) | (go_at_call 12; refine (num8_any _ _).mono ?_; rintro e w5 ⟨rfl, rfl⟩) | (go_at_call 8; refine (awake8_any _).mono ?_; rintro e w6 ⟨rfl, hb6⟩; have HB6 := Lib.hid (HB4.out.trans (hb6.mono HB4.out.size)); clear hb6))
                go_ret
                exact ⟨by simp, HB6.out⟩
              · by_cases h2 : 512 < sv.size
                · skip
                  have e1 : (sk.size : Int) ≤ 64 := by omega
                  have e2 : (512 : Int) < (sv.size : Int) := by omega
                  have hm := HM2.out
                  rw [← mayO_large (o := ⟨2, sk, sv⟩) (show (2 : Int) = 1 ∨ (2 : Int) = 2 by decide) (.inr h2)] at hm
                  have HM3 := Lib.hid hm
                  clear hm
                  go_wp2_with (first | (go_at_call 13; refine HM3.out.mono ?_; rintro e w4 ⟨rfl, hb4⟩; have n0 := (hb4.cell (p := ⟨g, i * 3, none⟩) hg2').trans V0.out; have n1 := (hb4.cell (p := ⟨g, i * 3 + 1, none⟩) hg2').trans V1.out; have n2 := (hb4.cell (p := ⟨g, i * 3 + 2, none⟩) hg2').trans V2.out; have HB4 := Lib.hid (HBE.out.trans (hb4.mono HBE.out.size)); clear hb4) | (go_at_call 12; refine (num8_any _ _).mono ?_; rintro e w5 ⟨rfl, rfl⟩) | (go_at_call 8; refine (awake8_any _).mono ?_; rintro e w6 ⟨rfl, hb6⟩; have HB6 := Lib.hid (HB4.out.trans (hb6.mono HB4.out.size)); clear hb6))
                  go_ret
                  exact ⟨by simp, HB6.out⟩
                · by_cases h3 : sv.size = 0
                  · have h4 : sv.toList.isEmpty = true := by rw [E]; exact decide_eq_true h3
                    clear E
                    have e1 : (sk.size : Int) ≤ 64 := by omega
                    have e2 : (sv.size : Int) ≤ 512 := by omega
                    skip
                    have hm := HM2.out
                    rw [← mayO_ok (o := ⟨2, sk, sv⟩) (.inr rfl) (by simp only; omega) (by simp only; omega) (.inr h3)] at hm
                    have HM3 := Lib.hid hm
                    clear hm
                    go_wp2_with (first | (go_at_call 13; refine HM3.out.mono ?_; rintro e w4 ⟨rfl, hb4⟩; have n0 := (hb4.cell (p := ⟨g, i * 3, none⟩) hg2').trans V0.out; have n1 := (hb4.cell (p := ⟨g, i * 3 + 1, none⟩) hg2').trans V1.out; have n2 := (hb4.cell (p := ⟨g, i * 3 + 2, none⟩) hg2').trans V2.out; have HB4 := Lib.hid (HBE.out.trans (hb4.mono HBE.out.size)); clear hb4) | (go_at_call 12; refine (num8_any _ _).mono ?_; rintro e w5 ⟨rfl, rfl⟩) | (go_at_call 8; refine (awake8_any _).mono ?_; rintro e w6 ⟨rfl, hb6⟩; have HB6 := Lib.hid (HB4.out.trans (hb6.mono HB4.out.size)); clear hb6))
                    go_ret
                    exact ⟨by simp, HB6.out⟩
                  · have h4 : sv.toList.isEmpty = false := by rw [E]; exact decide_eq_false h3
                    clear E
                    have e1 : (sk.size : Int) ≤ 64 := by omega
                    have e2 : (sv.size : Int) ≤ 512 := by omega
                    have hm := HM2.out
                    rw [← mayO_del (o := ⟨2, sk, sv⟩) rfl (by simp only; omega) (by simp only; omega) h3] at hm
                    have HM3 := Lib.hid hm
                    clear hm
                    go_wp2_with (first | (go_at_call 13; refine HM3.out.mono ?_; rintro e w4 ⟨rfl, hb4⟩; have n0 := (hb4.cell (p := ⟨g, i * 3, none⟩) hg2').trans V0.out; have n1 := (hb4.cell (p := ⟨g, i * 3 + 1, none⟩) hg2').trans V1.out; have n2 := (hb4.cell (p := ⟨g, i * 3 + 2, none⟩) hg2').trans V2.out; have HB4 := Lib.hid (HBE.out.trans (hb4.mono HBE.out.size)); clear hb4) | (go_at_call 12; refine (num8_any _ _).mono ?_; rintro e w5 ⟨rfl, rfl⟩) | (go_at_call 8; refine (awake8_any _).mono ?_; rintro e w6 ⟨rfl, hb6⟩; have HB6 := Lib.hid (HB4.out.trans (hb6.mono HB4.out.size)); clear hb6))
                    go_ret
                    exact ⟨by simp, HB6.out⟩
            · skip
              have hm := HM2.out
              rw [← mayO_kind (o := ⟨3, sk, sv⟩) (show (3 : Int) ≠ 1 by decide) (show (3 : Int) ≠ 2 by decide)] at hm
              have HM3 := Lib.hid hm
              clear hm
              go_wp2_with (first | (go_at_call 13; refine HM3.out.mono ?_; rintro e w4 ⟨rfl, hb4⟩; have n0 := (hb4.cell (p := ⟨g, i * 3, none⟩) hg2').trans V0.out; have n1 := (hb4.cell (p := ⟨g, i * 3 + 1, none⟩) hg2').trans V1.out; have n2 := (hb4.cell (p := ⟨g, i * 3 + 2, none⟩) hg2').trans V2.out; have HB4 := Lib.hid (HBE.out.trans (hb4.mono HBE.out.size)); clear hb4) | (go_at_call 12; refine (num8_any _ _).mono ?_; rintro e w5 ⟨rfl, rfl⟩) | (go_at_call 8; refine (awake8_any _).mono ?_; rintro e w6 ⟨rfl, hb6⟩; have HB6 := Lib.hid (HB4.out.trans (hb6.mono HB4.out.size)); clear hb6))
              go_ret
              exact ⟨by simp, HB6.out⟩
end Go.Proofs.Ytmcdkdoickbnlaa
