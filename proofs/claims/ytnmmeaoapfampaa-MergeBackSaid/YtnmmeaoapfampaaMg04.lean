import Derived.Test.YtnmmeaoapfampaaMg00
import Derived.Test.YtnmmeaoapfampaaMg03
import Derived.Test.YtnmmeaoapfampaaTwo
import Derived.Test.YtnmmeaoapfampaaMoves
import Derived.Test.YtnmmeaoapfampaaShift
import Derived.Test.YtnmmeaoapfampaaKeyCmp
import Derived.Deep.Cut
import Derived.Test.YtnmmeaoapfampaaMergeC

/-
  Package merge: two lists in order as one.
-/
namespace Go.Proofs.Ytnmmeaoapfampaa
open Go.RowKit

/-- How long a slice is. -/
def lenV : Value → Nat
  | .slice _ n _ => n
  | _ => 0

theorem own_pushed {w wr w' : World} {o : Obj} {la na : Option Addr} {ln lc nc : Nat} {out : List Ent} {e : Ent} (ho : OwnE wr w.heap.size (.slice la ln lc) out) (hb : Below w.heap.size w wr)
    (hown : w'.ownsRow 0 38 4 (.slice na (ln + 1) nc) (ln + 1) (out.flatMap Ent.cells ++ [e].flatMap Ent.cells)) (hmv : Moves (wr.drew.alloc o) w' (.slice la ln lc) (.slice na (ln + 1) nc)) (hll : out.length = ln) :
    OwnE w' w.heap.size (.slice na (ln + 1) nc) (out ++ [e]) ∧ (out ++ [e]).length = ln + 1 ∧ Below w.heap.size w w' := by
  have hA : Below w.heap.size w (wr.drew.alloc o) := (hb.drew).alloc (by have := hb.size; simpa using this) _
  refine ⟨?_, by rw [List.length_append, hll]; rfl, ?_⟩
  · have h2 : OwnE w' 0 (.slice na (ln + 1) nc) (out ++ [e]) := by unfold OwnE; rw [List.flatMap_append, List.length_append, hll]; exact hown
    refine own_base h2 fun k hk => ?_
    rcases hmv.at_ k hk with h | h
    · exact (World.ownsRow.lt ho k h).1
    · have := hA.size; omega
  · exact Kept.below ((Kept.of hA fun _ h => h).trans (hmv.kept (R := fun k => k < w.heap.size) fun k hk => ⟨Nat.lt_of_lt_of_le hk hA.size, fun e => by have := (World.ownsRow.lt ho k e).1; omega⟩)) fun _ h => h

set_option maxRecDepth 100000 in
set_option maxHeartbeats 1000000 in
set_option linter.unusedSimpArgs false in
theorem join_any (va vb : Value) (A B : List Ent) (w : World) (ha : RdE w va A) (hb : RdE w vb B) (hua : Up A) (hub : Up B) (hla : A.length ≤ 1000) (hlb : B.length ≤ 1000) :
    Calls Try.prog 22 #[va, vb] w fun e w' => ∃ x, e = .returned x ∧ OwnE w' w.heap.size x (joinE A B) ∧ Below w.heap.size w w' := by
  obtain ⟨aa, ca, rfl, hca, hcm⟩ := ha.form
  obtain ⟨ba, cb, rfl, hcb, hcn⟩ := hb.form
  have hmk := run_make_entries (A.length + B.length) (by omega)
  simp only [Int.natCast_add] at hmk
  obtain ⟨w0, hw0⟩ : ∃ w0, w0 = w.alloc (.cells (madeCells #[.string ⟨#[]⟩, .int .i64 0, .int .i64 0, .string ⟨#[]⟩] ((A.length + B.length) * 4)) 38) := ⟨_, rfl⟩
  have HB0 : Hid (Below w.heap.size w w0) := Lib.hid (by rw [hw0]; exact (Below.refl _ _).alloc (Nat.le_refl _) _)
  have HO0 : Hid (OwnE w0 w.heap.size (.slice (some ⟨w.heap.size, 0, none⟩) 0 (A.length + B.length)) []) := Lib.hid (by rw [hw0]; exact ⟨rfl, .inr ⟨w.heap.size, A.length + B.length, _, rfl, Nat.le_refl _, heap_alloc_new w _, Nat.zero_le _, by unfold maxLen; omega, size_madeCells _ _, by simp⟩⟩)
  have HW0 := Lib.hid hw0
  have HA := Lib.hid ha
  have HB := Lib.hid hb
  have HLJ := Lib.hid (join_len hua hub)
  have HJ : Hid (([] : List Ent) ++ joinE A B = joinE A B) := Lib.hid rfl
  clear ha hb hua hub hw0
  go_enter Try.func22, Try.ntmps22
  go_wp2
  go_step3
  go_wp2
  rw [← HW0.out]
  clear HW0 hmk
  go_wp2
  go_step3
  go_wp2
  go_loopw [0, 1, 5] (fun x0 x1 x5 wr => ∃ (A2 B2 out : List Ent) (pa pb la : Option Addr) (ka kb lc : Nat), x0 = .slice pa A2.length ka ∧ x1 = .slice pb B2.length kb ∧ x5 = .slice la out.length lc ∧ Hid (RdE w (.slice pa A2.length ka) A2) ∧ Hid (RdE w (.slice pb B2.length kb) B2) ∧ Hid (OwnE wr w.heap.size (.slice la out.length lc) out) ∧ Hid (out ++ joinE A2 B2 = joinE A B) ∧ Hid (Below w.heap.size w wr)) (fun x0 x1 _ _ => lenV x0 + lenV x1)
  case atStart => exact ⟨A, B, [], _, _, _, _, _, _, rfl, rfl, rfl, HA, HB, HO0, HJ, HB0⟩
  case round =>
    clear HA HB HO0 HJ HB0 hca hcb hcm hcn
    obtain ⟨A2, B2, out, pa, pb, la, ka, kb, lc, rfl, rfl, rfl, HA, HB, HOW, HJ, HBB⟩ := hrel
    cases A2 with
    | nil =>
      have HE : Hid ((out ++ []) ++ B2 = joinE A B) := Lib.hid (by have := HJ.out; rw [joinE] at this; rw [List.append_nil]; exact this)
      obtain ⟨nb, hnb⟩ : ∃ nb, B2.length = nb := ⟨_, rfl⟩
      obtain ⟨ln, hln⟩ : ∃ ln, out.length = ln := ⟨_, rfl⟩
      have HTOT : Hid (ln + 0 + nb ≤ 2000) := Lib.hid (by have h1 := congrArg List.length HE.out; have := HLJ.out; simp only [List.length_append, List.length_nil] at h1; omega)
      rw [hln] at HOW ⊢
      rw [hnb] at HB ⊢
      have HLN := Lib.hid hln
      have HNB := Lib.hid hnb
      clear hln hnb HJ
      obtain ⟨na, hna⟩ : ∃ na, ([] : List Ent).length = na := ⟨_, rfl⟩
      have hnaz : ¬ 0 < (na : Int) := by rw [← hna]; simp
      have HNA := Lib.hid hna
      have HTOT2 : Hid (ln + na + nb ≤ 2000) := Lib.hid (by rw [← hna]; exact HTOT.out)
      rw [hna] at HA ⊢
      clear hna HTOT
      generalize ([] : List Ent) = L1 at *
      have HOR : Hid (wr.ownsRow w.heap.size 38 4 (.slice la ln lc) ln (out.flatMap Ent.cells)) := Lib.hid (by have h := HOW.out; unfold OwnE at h; rw [HLN.out] at h; exact h)
      have HRA : Hid (Rd wr 4 (.slice pa na ka) na (L1.flatMap Ent.cells)) := Lib.hid (by have h := (HA.out.below HBB.out (Nat.le_refl _)).1; rw [HNA.out] at h; exact h)
      have HRB : Hid (∀ w1, Below w.heap.size w w1 → Rd w1 4 (.slice pb nb kb) nb (B2.flatMap Ent.cells)) := Lib.hid (fun w1 hb1 => by have h := (HB.out.below hb1 (Nat.le_refl _)).1; rw [HNB.out] at h; exact h)
      go_wp2_with (at_builtin; refine wpList_append_rd rfl (.tmp 54) (.tmp 55) 25 rfl w.heap.size 38 4 48 (.agg #[.string ⟨#[]⟩, .int .i64 0, .int .i64 0, .string ⟨#[]⟩]) Try.underlying25 info_ent rfl (by decide) (.slice la ln lc) _ ln na (out.flatMap Ent.cells) (L1.flatMap Ent.cells) rfl rfl HOR.out HRA.out (entFlat_one _) ?bbA ?l1A ?l2A ?kkA)
      case bbA => exact HBB.out.size
      case l1A => (have := HTOT2.out; omega)
      case l2A => (have := HTOT2.out; unfold maxLen; omega)
      case kkA =>
        intro v1 w1 hown hBk
        have HB1 := Lib.hid (hBk w.heap.size w (Nat.le_refl _) HBB.out)
        obtain ⟨lm, hlm⟩ : ∃ lm, ln + na = lm := ⟨_, rfl⟩
        rw [hlm] at hown
        have HLM := Lib.hid hlm
        clear hlm
        have HO1 := Lib.hid hown
        obtain ⟨sv, cv, rfl, _, _⟩ := rd_of_own hown
        clear hown hBk
        have HRB1 := Lib.hid (HRB.out w1 HB1.out)
        go_wp2_with (at_builtin; refine wpList_append_rd rfl (.tmp 56) (.tmp 57) 25 rfl w.heap.size 38 4 48 (.agg #[.string ⟨#[]⟩, .int .i64 0, .int .i64 0, .string ⟨#[]⟩]) Try.underlying25 info_ent rfl (by decide) (.slice sv lm cv) _ lm nb (out.flatMap Ent.cells ++ L1.flatMap Ent.cells) (B2.flatMap Ent.cells) rfl rfl HO1.out HRB1.out (entFlat_one _) ?bbB ?l1B ?l2B ?kkB)
        case bbB => exact HB1.out.size
        case l1B => (have := HTOT2.out; have := HLM.out; omega)
        case l2B => (have := HTOT2.out; have := HLM.out; unfold maxLen; omega)
        case kkB =>
          intro v2 w2 hown hBk
          have HB2 := Lib.hid (hBk w.heap.size w (Nat.le_refl _) HB1.out)
          have HO2 := Lib.hid hown
          clear hown hBk
          go_wp2
          rw [Exit.noGoto_ret]
          go_ret
          refine ⟨v2, rfl, ?_, HB2.out⟩
          rw [← HE.out]
          have h := HO2.out
          rw [← HLM.out] at h
          unfold OwnE
          rw [List.flatMap_append, List.flatMap_append, List.length_append, List.length_append, HLN.out]
          rw [HNA.out, HNB.out, List.append_assoc]; exact h
    | cons x ar =>
      obtain ⟨na, hna⟩ : ∃ na, (x :: ar).length = na := ⟨_, rfl⟩
      cases B2 with
      | nil =>
        have HE : Hid ((out ++ (x :: ar)) ++ [] = joinE A B) := Lib.hid (by have := HJ.out; rw [join_nil] at this; rw [List.append_nil]; exact this)
        obtain ⟨ln, hln⟩ : ∃ ln, out.length = ln := ⟨_, rfl⟩
        have HTOT : Hid (ln + na + 0 ≤ 2000) := Lib.hid (by have h1 := congrArg List.length HE.out; have := HLJ.out; rw [List.length_append, List.length_append, hna] at h1; simp only [List.length_nil] at h1; omega)
        have hna0 : 0 < na := by rw [← hna]; simp
        rw [hln] at HOW ⊢
        rw [hna] at HA ⊢
        have HLN := Lib.hid hln
        have HNA := Lib.hid hna
        clear hln hna HJ
        have hna0z : 0 < (na : Int) := by omega
        obtain ⟨nb, hnb⟩ : ∃ nb, ([] : List Ent).length = nb := ⟨_, rfl⟩
        have hnbz : ¬ 0 < (nb : Int) := by rw [← hnb]; simp
        have HNB := Lib.hid hnb
        have HTOT2 : Hid (ln + na + nb ≤ 2000) := Lib.hid (by rw [← hnb]; exact HTOT.out)
        rw [hnb] at HB ⊢
        clear hnb HTOT hna0
        generalize ([] : List Ent) = B2 at *
        generalize x :: ar = L1 at *
        have HOR : Hid (wr.ownsRow w.heap.size 38 4 (.slice la ln lc) ln (out.flatMap Ent.cells)) := Lib.hid (by have h := HOW.out; unfold OwnE at h; rw [HLN.out] at h; exact h)
        have HRA : Hid (Rd wr 4 (.slice pa na ka) na (L1.flatMap Ent.cells)) := Lib.hid (by have h := (HA.out.below HBB.out (Nat.le_refl _)).1; rw [HNA.out] at h; exact h)
        have HRB : Hid (∀ w1, Below w.heap.size w w1 → Rd w1 4 (.slice pb nb kb) nb (B2.flatMap Ent.cells)) := Lib.hid (fun w1 hb1 => by have h := (HB.out.below hb1 (Nat.le_refl _)).1; rw [HNB.out] at h; exact h)
        go_wp2_with (at_builtin; refine wpList_append_rd rfl (.tmp 54) (.tmp 55) 25 rfl w.heap.size 38 4 48 (.agg #[.string ⟨#[]⟩, .int .i64 0, .int .i64 0, .string ⟨#[]⟩]) Try.underlying25 info_ent rfl (by decide) (.slice la ln lc) _ ln na (out.flatMap Ent.cells) (L1.flatMap Ent.cells) rfl rfl HOR.out HRA.out (entFlat_one _) ?bbA ?l1A ?l2A ?kkA)
        case bbA => exact HBB.out.size
        case l1A => (have := HTOT2.out; omega)
        case l2A => (have := HTOT2.out; unfold maxLen; omega)
        case kkA =>
          intro v1 w1 hown hBk
          have HB1 := Lib.hid (hBk w.heap.size w (Nat.le_refl _) HBB.out)
          obtain ⟨lm, hlm⟩ : ∃ lm, ln + na = lm := ⟨_, rfl⟩
          rw [hlm] at hown
          have HLM := Lib.hid hlm
          clear hlm
          have HO1 := Lib.hid hown
          obtain ⟨sv, cv, rfl, _, _⟩ := rd_of_own hown
          clear hown hBk
          have HRB1 := Lib.hid (HRB.out w1 HB1.out)
          go_wp2_with (at_builtin; refine wpList_append_rd rfl (.tmp 56) (.tmp 57) 25 rfl w.heap.size 38 4 48 (.agg #[.string ⟨#[]⟩, .int .i64 0, .int .i64 0, .string ⟨#[]⟩]) Try.underlying25 info_ent rfl (by decide) (.slice sv lm cv) _ lm nb (out.flatMap Ent.cells ++ L1.flatMap Ent.cells) (B2.flatMap Ent.cells) rfl rfl HO1.out HRB1.out (entFlat_one _) ?bbB ?l1B ?l2B ?kkB)
          case bbB => exact HB1.out.size
          case l1B => (have := HTOT2.out; have := HLM.out; omega)
          case l2B => (have := HTOT2.out; have := HLM.out; unfold maxLen; omega)
          case kkB =>
            intro v2 w2 hown hBk
            have HB2 := Lib.hid (hBk w.heap.size w (Nat.le_refl _) HB1.out)
            have HO2 := Lib.hid hown
            clear hown hBk
            go_wp2
            rw [Exit.noGoto_ret]
            go_ret
            refine ⟨v2, rfl, ?_, HB2.out⟩
            rw [← HE.out]
            have h := HO2.out
            rw [← HLM.out] at h
            unfold OwnE
            rw [List.flatMap_append, List.flatMap_append, List.length_append, List.length_append, HLN.out]
            rw [HNA.out, HNB.out, List.append_assoc]; exact h
      | cons y br =>
        obtain ⟨nb, hnb⟩ : ∃ nb, (y :: br).length = nb := ⟨_, rfl⟩
        obtain ⟨ln, hln⟩ : ∃ ln, out.length = ln := ⟨_, rfl⟩
        have hna0 : 0 < na := by rw [← hna]; simp
        have hnb0 : 0 < nb := by rw [← hnb]; simp
        have hna0z : 0 < (na : Int) := by omega
        have hnb0z : 0 < (nb : Int) := by omega
        have HLN : Hid (ln ≤ 2000) := Lib.hid (by have h1 := congrArg List.length HJ.out; have := HLJ.out; rw [List.length_append] at h1; omega)
        have hfx := HA.out.2 x (by simp)
        have hfy := HB.out.2 y (by simp)
        obtain ⟨ga, oa, ka', hva, hka1, _, hga, hcells⟩ := HA.out.at_ (by simp)
        cases hva
        obtain ⟨x0, x1, x2, x3⟩ := hcells 0 (by simp)
        obtain ⟨gb, ob, kb', hvb, hkb1, _, hgb, hcells2⟩ := HB.out.at_ (by simp)
        cases hvb
        obtain ⟨y0, y1, y2, y3⟩ := hcells2 0 (by simp)
        simp only [Nat.zero_mul, Nat.add_zero, List.getD_cons_zero] at x0 x1 x2 x3 y0 y1 y2 y3
        clear hcells hcells2
        obtain ⟨cm, hcm⟩ : ∃ cm, x.cmp y = cm := ⟨_, rfl⟩
        have HC : Hid (∀ n os, Calls Try.prog 33 #[.agg #[.string x.u, .int .i64 x.s, .int .i64 x.k], .agg #[.string y.u, .int .i64 y.s, .int .i64 y.k]] (shiftW wr n os) fun e w'' => e = .returned (.int .i64 cm) ∧ ∃ p : ShiftBy, w'' = shiftW wr p.n p.os) := Lib.hid fun n os => Calls.shift_of (by rw [← hcm]; exact cmp_any x.u x.s x.k y.u y.s y.k hfx.1 hfy.1 _)
        rw [hln] at HOW ⊢
        rw [hna] at HA ⊢
        rw [hnb] at HB ⊢
        have c0 := fun z_ os => ((belowT HBB.out (shift_below wr z_ os)).cell (p := ⟨ga, oa, none⟩) hga).trans x0
        have c1 := fun z_ os => ((belowT HBB.out (shift_below wr z_ os)).cell (p := ⟨ga, oa + 1, none⟩) hga).trans x1
        have c2 := fun z_ os => ((belowT HBB.out (shift_below wr z_ os)).cell (p := ⟨ga, oa + 2, none⟩) hga).trans x2
        have d0 := fun z_ os => ((belowT HBB.out (shift_below wr z_ os)).cell (p := ⟨gb, ob, none⟩) hgb).trans y0
        have d1 := fun z_ os => ((belowT HBB.out (shift_below wr z_ os)).cell (p := ⟨gb, ob + 1, none⟩) hgb).trans y1
        have d2 := fun z_ os => ((belowT HBB.out (shift_below wr z_ os)).cell (p := ⟨gb, ob + 2, none⟩) hgb).trans y2
        have HX0 := Lib.hid x0
        have HX1 := Lib.hid x1
        have HX2 := Lib.hid x2
        have HX3 := Lib.hid x3
        have HY0 := Lib.hid y0
        have HY1 := Lib.hid y1
        have HY2 := Lib.hid y2
        have HY3 := Lib.hid y3
        have HNA := Lib.hid hna
        have HNB := Lib.hid hnb
        have HLL := Lib.hid hln
        have HCM := Lib.hid hcm
        have HKA := Lib.hid hka1
        have HKB := Lib.hid hkb1
        clear x0 x1 x2 x3 y0 y1 y2 y3 hna hnb hln hcm hfx hfy hka1 hkb1
        go_wp2
        refine wp_region_shift (by kernel_rfl) (by kernel_rfl) ?_
        repeat (quiet_step (exact HC.out _ _))
        refine wpQuiet_nil ?_
        intro _ hw'
        obtain ⟨⟨nq, osq⟩, hw''⟩ := hw'
        subst hw''
        have hbz := belowT HBB.out (shift_below wr nq osq)
        have hoz := HOW.out.below (shift_below wr nq osq)
        clear c0 c1 c2 d0 d1 d2 HC HBB HOW
        generalize shiftW wr nq osq = wq at hbz hoz ⊢
        have HBB := Lib.hid hbz
        have HOW := Lib.hid hoz
        clear hbz hoz
        have a0 := (HBB.out.cell (p := ⟨ga, oa, none⟩) hga).trans HX0.out
        have a1 := (HBB.out.cell (p := ⟨ga, oa + 1, none⟩) hga).trans HX1.out
        have a2 := (HBB.out.cell (p := ⟨ga, oa + 2, none⟩) hga).trans HX2.out
        have a3 := (HBB.out.cell (p := ⟨ga, oa + 3, none⟩) hga).trans HX3.out
        have b0 := (HBB.out.cell (p := ⟨gb, ob, none⟩) hgb).trans HY0.out
        have b1 := (HBB.out.cell (p := ⟨gb, ob + 1, none⟩) hgb).trans HY1.out
        have b2 := (HBB.out.cell (p := ⟨gb, ob + 2, none⟩) hgb).trans HY2.out
        have b3 := (HBB.out.cell (p := ⟨gb, ob + 3, none⟩) hgb).trans HY3.out
        have hgaw : ga < wq.drew.heap.size := Nat.lt_of_lt_of_le hga HBB.out.size
        have hna1z : 1 ≤ (na : Int) := by omega
        have hnb1z : 1 ≤ (nb : Int) := by omega
        have HOR : Hid (wq.ownsRow 0 38 4 (.slice la ln lc) ln (out.flatMap Ent.cells)) := Lib.hid (by have h := own_monoE HOW.out (Nat.zero_le _); unfold OwnE at h; rw [HLL.out] at h; exact h)
        have hgbw : gb < wq.drew.heap.size := Nat.lt_of_lt_of_le hgb HBB.out.size
        obtain ⟨ma, hma⟩ : ∃ ma, (if ka = 1 then some (⟨ga, oa, none⟩ : Addr) else some ⟨ga, oa + 4, none⟩) = some ⟨ga, ma, none⟩ := by split <;> exact ⟨_, rfl⟩
        obtain ⟨mb, hmb⟩ : ∃ mb, (if kb = 1 then some (⟨gb, ob, none⟩ : Addr) else some ⟨gb, ob + 4, none⟩) = some ⟨gb, mb, none⟩ := by split <;> exact ⟨_, rfl⟩
        have HMA := Lib.hid hma
        have HMB := Lib.hid hmb
        clear hma hmb
        have HFA : Hid (RdE w (.slice (some ⟨ga, ma, none⟩) ar.length (ka - 1)) ar) := Lib.hid (by
          have h := HA.out
          rw [← HNA.out] at h
          refine h.from_ 1 (by simp) (fun h1 => ?_) rfl (by simp)
          have hk : ¬ ka = 1 := by have := HKA.out; omega
          have h2 := HMA.out
          rw [if_neg hk] at h2
          simpa using h2.symm)
        have HFB : Hid (RdE w (.slice (some ⟨gb, mb, none⟩) br.length (kb - 1)) br) := Lib.hid (by
          have h := HB.out
          rw [← HNB.out] at h
          refine h.from_ 1 (by simp) (fun h1 => ?_) rfl (by simp)
          have hk : ¬ kb = 1 := by have := HKB.out; omega
          have h2 := HMB.out
          rw [if_neg hk] at h2
          simpa using h2.symm)
        have hda : na - 1 = ar.length := by have := HNA.out; simp only [List.length_cons] at this; omega
        have hdb : nb - 1 = br.length := by have := HNB.out; simp only [List.length_cons] at this; omega
        have HDA := Lib.hid hda
        have HDB := Lib.hid hdb
        have hka0 : 1 ≤ ka := by have := HKA.out; simp only [List.length_cons] at this; omega
        have hkb0 : 1 ≤ kb := by have := HKB.out; simp only [List.length_cons] at this; omega
        clear hda hdb
        obtain ⟨xu, xs, xk, xv⟩ := x
        obtain ⟨yu, ys, yk, yv⟩ := y
        dsimp only at a0 a1 a2 a3 b0 b1 b2 b3
        rcases Int.lt_trichotomy cm 0 with hc | hc | hc
        · have HJ2 : Hid ((out ++ [(⟨xu, xs, xk, xv⟩ : Ent)]) ++ joinE ar (⟨yu, ys, yk, yv⟩ :: br) = joinE A B) := Lib.hid (by have := HJ.out; rw [join_below (by rw [HCM.out]; exact hc)] at this; simpa using this)
          have e1 : ¬ 0 < cm := by omega
          have e2 : ¬ cm = 0 := by omega
          clear HJ
          go_wp2
          refine wp_region_two (fun wz => Below wq.drew.heap.size wq.drew wz) (fun _ => True) [(0, 0), (0, 1), (0, 2), (0, 3), (1, 6), (1, 7), (2, 4), (3, 5), (1, 8), (1, 9)] [5] (by kernel_rfl) (by kernel_rfl) (by kernel_rfl) (by kernel_rfl) (by kernel_rfl) (Below.refl _ _) trivial ?_
          simp only [planT, List.drop_succ_cons, List.drop_zero]
          refine PlanT.take0 (v := ?vQ0) (by kernel_rfl) ?yQ0 ?rQ0
          case yQ0 => (intro wz hz; go_simp; try with_reducible rfl)
          (try simp only [Act.put, List.setIfInBounds_toArray, List.set_cons_zero, List.set_cons_succ])
          refine PlanT.take0 (v := ?vQ1) (by kernel_rfl) ?yQ1 ?rQ1
          case yQ1 => (intro wz hz; go_simp; try with_reducible rfl)
          (try simp only [Act.put, List.setIfInBounds_toArray, List.set_cons_zero, List.set_cons_succ])
          refine PlanT.take0 (v := ?vQ2) (by kernel_rfl) ?yQ2 ?rQ2
          case yQ2 => (intro wz hz; go_simp; try with_reducible rfl)
          (try simp only [Act.put, List.setIfInBounds_toArray, List.set_cons_zero, List.set_cons_succ])
          refine PlanT.take0 (v := ?vQ3) (by kernel_rfl) ?yQ3 ?rQ3
          case yQ3 => (intro wz hz; have c0 := (hz.cell (p := ⟨ga, oa, none⟩) hgaw).trans a0; have c1 := (hz.cell (p := ⟨ga, oa + 1, none⟩) hgaw).trans a1; have c2 := (hz.cell (p := ⟨ga, oa + 2, none⟩) hgaw).trans a2; have c3 := (hz.cell (p := ⟨ga, oa + 3, none⟩) hgaw).trans a3; go_simp; try with_reducible rfl)
          (try simp only [Act.put, List.setIfInBounds_toArray, List.set_cons_zero, List.set_cons_succ])
          refine PlanT.take1 (v := ?vQ6) (by kernel_rfl) ?yQ6 ?rQ6
          case yQ6 => (intro wz hz; go_simp; try with_reducible rfl)
          (try simp only [Act.put, List.setIfInBounds_toArray, List.set_cons_zero, List.set_cons_succ])
          refine PlanT.take1 (v := .slice (some ⟨ga, ma, none⟩) (na - 1) (ka - 1)) (by kernel_rfl) ?yQ7 ?rQ7
          case yQ7 => (intro wz hz; go_simp; exact HMA.out)
          (try simp only [Act.put, List.setIfInBounds_toArray, List.set_cons_zero, List.set_cons_succ])
          refine PlanT.exec2 (fun K hK => ⟨by kernel_rfl, ?_⟩)
          go_simp
          refine hK.out _ _ ((Below.refl _ _).alloc (Nat.le_refl _) _) trivial ?_
          clear hK K
          (try simp only [Act.put, List.setIfInBounds_toArray, List.set_cons_zero, List.set_cons_succ])
          refine PlanT.exec3 (fun K hK => ⟨by kernel_rfl, ?_⟩)
          refine wp_append_at (.tmp 46) (.tmp 50) 25 rfl 38 4 48 (.agg #[.string ⟨#[]⟩, .int .i64 0, .int .i64 0, .string ⟨#[]⟩]) Try.underlying25 info_ent rfl (by decide) (.slice la ln lc) (.slice (some ⟨wq.drew.heap.size, 0, none⟩) 1 1) ln 1 (out.flatMap Ent.cells) ([⟨xu, xs, xk, xv⟩].flatMap Ent.cells) ?q1Q ?q2Q ?q3Q ?q4Q (entFlat_one _) ?q5Q ?q6Q ?_
          case q1Q => rfl
          case q2Q => rfl
          case q3Q => exact World.ownsRow.drew (World.ownsRow.alloc HOR.out _)
          case q4Q => exact one_entry wq.drew ⟨xu, xs, xk, xv⟩
          case q5Q => (have := HLN.out; omega)
          case q6Q => (have := HLN.out; unfold maxLen; omega)
          intro v' w' hown hmv
          obtain ⟨sv, cv, rfl, _, _⟩ := rd_of_own hown
          have hpush := own_pushed (e := ⟨xu, xs, xk, xv⟩) HOW.out HBB.out hown hmv HLL.out
          have HPU := Lib.hid hpush
          clear hown hmv hpush
          refine hK.out _ _ trivial ?_
          clear hK K
          (try simp only [Act.put, List.setIfInBounds_toArray, List.set_cons_zero, List.set_cons_succ])
          refine PlanT.take1 (v := ?vQ8) (by kernel_rfl) ?yQ8 ?rQ8
          case yQ8 => (intro wz hz; go_simp; try with_reducible rfl)
          (try simp only [Act.put, List.setIfInBounds_toArray, List.set_cons_zero, List.set_cons_succ])
          refine PlanT.take1 (v := ?vQ9) (by kernel_rfl) ?yQ9 ?rQ9
          case yQ9 => (intro wz hz; go_simp; try with_reducible rfl)
          (try simp only [Act.put, List.setIfInBounds_toArray, List.set_cons_zero, List.set_cons_succ])
          refine PlanT.done (NoPanic.normal ?_)
          go_wp2
          refine ⟨⟨ar, ⟨yu, ys, yk, yv⟩ :: br, out ++ [⟨xu, xs, xk, xv⟩], some ⟨ga, ma, none⟩, some ⟨gb, ob, none⟩, sv, ka - 1, kb, cv, by rw [HDA.out], by rw [HNB.out], by rw [HPU.out.2.1], HFA, by rw [HNB.out]; exact HB, Lib.hid (by rw [HPU.out.2.1]; exact HPU.out.1), HJ2, Lib.hid HPU.out.2.2⟩, by simp only [lenV]; omega⟩
        · have HJ2 : Hid ((out ++ [(⟨xu, xs, xk, xv⟩ : Ent)]) ++ joinE ar br = joinE A B) := Lib.hid (by have := HJ.out; rw [join_alike (by rw [HCM.out]; exact hc)] at this; simpa using this)
          have e1 : ¬ 0 < cm := by omega
          clear HJ
          by_cases hk : kb = 1
          · have HFB' : Hid (RdE w (.slice (some ⟨gb, ob, none⟩) br.length 0) br) := Lib.hid (by
              have h := HFB.out
              have h2 := HMB.out
              rw [if_pos hk] at h2
              cases h2
              rw [hk] at h
              exact h)
            go_wp2
            refine wp_region_two (fun wz => Below wq.drew.heap.size wq.drew wz) (fun _ => True) [(0, 0), (0, 1), (0, 2), (0, 3), (1, 6), (1, 7), (2, 4), (3, 5), (1, 8), (1, 9)] [5] (by kernel_rfl) (by kernel_rfl) (by kernel_rfl) (by kernel_rfl) (by kernel_rfl) (Below.refl _ _) trivial ?_
            simp only [planT, List.drop_succ_cons, List.drop_zero]
            refine PlanT.take0 (v := ?vR0) (by kernel_rfl) ?yR0 ?rR0
            case yR0 => (intro wz hz; go_simp; try with_reducible rfl)
            (try simp only [Act.put, List.setIfInBounds_toArray, List.set_cons_zero, List.set_cons_succ])
            refine PlanT.take0 (v := ?vR1) (by kernel_rfl) ?yR1 ?rR1
            case yR1 => (intro wz hz; go_simp; try with_reducible rfl)
            (try simp only [Act.put, List.setIfInBounds_toArray, List.set_cons_zero, List.set_cons_succ])
            refine PlanT.take0 (v := ?vR2) (by kernel_rfl) ?yR2 ?rR2
            case yR2 => (intro wz hz; go_simp; try with_reducible rfl)
            (try simp only [Act.put, List.setIfInBounds_toArray, List.set_cons_zero, List.set_cons_succ])
            refine PlanT.take0 (v := ?vR3) (by kernel_rfl) ?yR3 ?rR3
            case yR3 => (intro wz hz; have c0 := (hz.cell (p := ⟨ga, oa, none⟩) hgaw).trans a0; have c1 := (hz.cell (p := ⟨ga, oa + 1, none⟩) hgaw).trans a1; have c2 := (hz.cell (p := ⟨ga, oa + 2, none⟩) hgaw).trans a2; have c3 := (hz.cell (p := ⟨ga, oa + 3, none⟩) hgaw).trans a3; go_simp; try with_reducible rfl)
            (try simp only [Act.put, List.setIfInBounds_toArray, List.set_cons_zero, List.set_cons_succ])
            refine PlanT.take1 (v := ?vR6) (by kernel_rfl) ?yR6 ?rR6
            case yR6 => (intro wz hz; go_simp; try with_reducible rfl)
            (try simp only [Act.put, List.setIfInBounds_toArray, List.set_cons_zero, List.set_cons_succ])
            refine PlanT.take1 (v := .slice (some ⟨ga, ma, none⟩) (na - 1) (ka - 1)) (by kernel_rfl) ?yR7 ?rR7
            case yR7 => (intro wz hz; go_simp; exact HMA.out)
            (try simp only [Act.put, List.setIfInBounds_toArray, List.set_cons_zero, List.set_cons_succ])
            refine PlanT.exec2 (fun K hK => ⟨by kernel_rfl, ?_⟩)
            go_simp
            refine hK.out _ _ ((Below.refl _ _).alloc (Nat.le_refl _) _) trivial ?_
            clear hK K
            (try simp only [Act.put, List.setIfInBounds_toArray, List.set_cons_zero, List.set_cons_succ])
            refine PlanT.exec3 (fun K hK => ⟨by kernel_rfl, ?_⟩)
            refine wp_append_at (.tmp 46) (.tmp 50) 25 rfl 38 4 48 (.agg #[.string ⟨#[]⟩, .int .i64 0, .int .i64 0, .string ⟨#[]⟩]) Try.underlying25 info_ent rfl (by decide) (.slice la ln lc) (.slice (some ⟨wq.drew.heap.size, 0, none⟩) 1 1) ln 1 (out.flatMap Ent.cells) ([⟨xu, xs, xk, xv⟩].flatMap Ent.cells) ?q1R ?q2R ?q3R ?q4R (entFlat_one _) ?q5R ?q6R ?_
            case q1R => rfl
            case q2R => rfl
            case q3R => exact World.ownsRow.drew (World.ownsRow.alloc HOR.out _)
            case q4R => exact one_entry wq.drew ⟨xu, xs, xk, xv⟩
            case q5R => (have := HLN.out; omega)
            case q6R => (have := HLN.out; unfold maxLen; omega)
            intro v' w' hown hmv
            obtain ⟨sv, cv, rfl, _, _⟩ := rd_of_own hown
            have hpush := own_pushed (e := ⟨xu, xs, xk, xv⟩) HOW.out HBB.out hown hmv HLL.out
            have HPU := Lib.hid hpush
            clear hown hmv hpush
            refine hK.out _ _ trivial ?_
            clear hK K
            (try simp only [Act.put, List.setIfInBounds_toArray, List.set_cons_zero, List.set_cons_succ])
            refine PlanT.take1 (v := ?vR8) (by kernel_rfl) ?yR8 ?rR8
            case yR8 => (intro wz hz; go_simp; try with_reducible rfl)
            (try simp only [Act.put, List.setIfInBounds_toArray, List.set_cons_zero, List.set_cons_succ])
            refine PlanT.take1 (v := ?vR9) (by kernel_rfl) ?yR9 ?rR9
            case yR9 => (intro wz hz; go_simp; try with_reducible rfl)
            (try simp only [Act.put, List.setIfInBounds_toArray, List.set_cons_zero, List.set_cons_succ])
            refine PlanT.done (NoPanic.normal ?_)
            go_wp2
            refine ⟨⟨ar, br, out ++ [⟨xu, xs, xk, xv⟩], some ⟨ga, ma, none⟩, some ⟨gb, ob, none⟩, sv, ka - 1, 0, cv, by rw [HDA.out], by rw [HDB.out], by rw [HPU.out.2.1], HFA, HFB', Lib.hid (by rw [HPU.out.2.1]; exact HPU.out.1), HJ2, Lib.hid HPU.out.2.2⟩, by simp only [lenV]; omega⟩
          · have HFB' : Hid (RdE w (.slice (some ⟨gb, ob + 4, none⟩) br.length (kb - 1)) br) := Lib.hid (by
              have h := HFB.out
              have h2 := HMB.out
              rw [if_neg hk] at h2
              cases h2
              exact h)
            go_wp2
            refine wp_region_two (fun wz => Below wq.drew.heap.size wq.drew wz) (fun _ => True) [(0, 0), (0, 1), (0, 2), (0, 3), (1, 6), (1, 7), (2, 4), (3, 5), (1, 8), (1, 9)] [5] (by kernel_rfl) (by kernel_rfl) (by kernel_rfl) (by kernel_rfl) (by kernel_rfl) (Below.refl _ _) trivial ?_
            simp only [planT, List.drop_succ_cons, List.drop_zero]
            refine PlanT.take0 (v := ?vS0) (by kernel_rfl) ?yS0 ?rS0
            case yS0 => (intro wz hz; go_simp; try with_reducible rfl)
            (try simp only [Act.put, List.setIfInBounds_toArray, List.set_cons_zero, List.set_cons_succ])
            refine PlanT.take0 (v := ?vS1) (by kernel_rfl) ?yS1 ?rS1
            case yS1 => (intro wz hz; go_simp; try with_reducible rfl)
            (try simp only [Act.put, List.setIfInBounds_toArray, List.set_cons_zero, List.set_cons_succ])
            refine PlanT.take0 (v := ?vS2) (by kernel_rfl) ?yS2 ?rS2
            case yS2 => (intro wz hz; go_simp; try with_reducible rfl)
            (try simp only [Act.put, List.setIfInBounds_toArray, List.set_cons_zero, List.set_cons_succ])
            refine PlanT.take0 (v := ?vS3) (by kernel_rfl) ?yS3 ?rS3
            case yS3 => (intro wz hz; have c0 := (hz.cell (p := ⟨ga, oa, none⟩) hgaw).trans a0; have c1 := (hz.cell (p := ⟨ga, oa + 1, none⟩) hgaw).trans a1; have c2 := (hz.cell (p := ⟨ga, oa + 2, none⟩) hgaw).trans a2; have c3 := (hz.cell (p := ⟨ga, oa + 3, none⟩) hgaw).trans a3; go_simp; try with_reducible rfl)
            (try simp only [Act.put, List.setIfInBounds_toArray, List.set_cons_zero, List.set_cons_succ])
            refine PlanT.take1 (v := ?vS6) (by kernel_rfl) ?yS6 ?rS6
            case yS6 => (intro wz hz; go_simp; try with_reducible rfl)
            (try simp only [Act.put, List.setIfInBounds_toArray, List.set_cons_zero, List.set_cons_succ])
            refine PlanT.take1 (v := .slice (some ⟨ga, ma, none⟩) (na - 1) (ka - 1)) (by kernel_rfl) ?yS7 ?rS7
            case yS7 => (intro wz hz; go_simp; exact HMA.out)
            (try simp only [Act.put, List.setIfInBounds_toArray, List.set_cons_zero, List.set_cons_succ])
            refine PlanT.exec2 (fun K hK => ⟨by kernel_rfl, ?_⟩)
            go_simp
            refine hK.out _ _ ((Below.refl _ _).alloc (Nat.le_refl _) _) trivial ?_
            clear hK K
            (try simp only [Act.put, List.setIfInBounds_toArray, List.set_cons_zero, List.set_cons_succ])
            refine PlanT.exec3 (fun K hK => ⟨by kernel_rfl, ?_⟩)
            refine wp_append_at (.tmp 46) (.tmp 50) 25 rfl 38 4 48 (.agg #[.string ⟨#[]⟩, .int .i64 0, .int .i64 0, .string ⟨#[]⟩]) Try.underlying25 info_ent rfl (by decide) (.slice la ln lc) (.slice (some ⟨wq.drew.heap.size, 0, none⟩) 1 1) ln 1 (out.flatMap Ent.cells) ([⟨xu, xs, xk, xv⟩].flatMap Ent.cells) ?q1S ?q2S ?q3S ?q4S (entFlat_one _) ?q5S ?q6S ?_
            case q1S => rfl
            case q2S => rfl
            case q3S => exact World.ownsRow.drew (World.ownsRow.alloc HOR.out _)
            case q4S => exact one_entry wq.drew ⟨xu, xs, xk, xv⟩
            case q5S => (have := HLN.out; omega)
            case q6S => (have := HLN.out; unfold maxLen; omega)
            intro v' w' hown hmv
            obtain ⟨sv, cv, rfl, _, _⟩ := rd_of_own hown
            have hpush := own_pushed (e := ⟨xu, xs, xk, xv⟩) HOW.out HBB.out hown hmv HLL.out
            have HPU := Lib.hid hpush
            clear hown hmv hpush
            refine hK.out _ _ trivial ?_
            clear hK K
            (try simp only [Act.put, List.setIfInBounds_toArray, List.set_cons_zero, List.set_cons_succ])
            refine PlanT.take1 (v := ?vS8) (by kernel_rfl) ?yS8 ?rS8
            case yS8 => (intro wz hz; go_simp; try with_reducible rfl)
            (try simp only [Act.put, List.setIfInBounds_toArray, List.set_cons_zero, List.set_cons_succ])
            refine PlanT.take1 (v := ?vS9) (by kernel_rfl) ?yS9 ?rS9
            case yS9 => (intro wz hz; go_simp; try with_reducible rfl)
            (try simp only [Act.put, List.setIfInBounds_toArray, List.set_cons_zero, List.set_cons_succ])
            refine PlanT.done (NoPanic.normal ?_)
            go_wp2
            refine ⟨⟨ar, br, out ++ [⟨xu, xs, xk, xv⟩], some ⟨ga, ma, none⟩, some ⟨gb, ob + 4, none⟩, sv, ka - 1, kb - 1, cv, by rw [HDA.out], by rw [HDB.out], by rw [HPU.out.2.1], HFA, HFB', Lib.hid (by rw [HPU.out.2.1]; exact HPU.out.1), HJ2, Lib.hid HPU.out.2.2⟩, by simp only [lenV]; omega⟩
        · have HJ2 : Hid ((out ++ [(⟨yu, ys, yk, yv⟩ : Ent)]) ++ joinE (⟨xu, xs, xk, xv⟩ :: ar) br = joinE A B) := Lib.hid (by have := HJ.out; rw [join_above (by rw [HCM.out]; exact hc)] at this; simpa using this)
          clear HJ
          go_wp2
          refine wp_region_two (fun wz => Below wq.drew.heap.size wq.drew wz) (fun _ => True) [(0, 0), (0, 1), (0, 2), (0, 3), (1, 6), (1, 7), (2, 4), (3, 5), (1, 8), (1, 9)] [5] (by kernel_rfl) (by kernel_rfl) (by kernel_rfl) (by kernel_rfl) (by kernel_rfl) (Below.refl _ _) trivial ?_
          simp only [planT, List.drop_succ_cons, List.drop_zero]
          refine PlanT.take0 (v := ?vP0) (by kernel_rfl) ?yP0 ?rP0
          case yP0 => (intro wz hz; go_simp; try with_reducible rfl)
          (try simp only [Act.put, List.setIfInBounds_toArray, List.set_cons_zero, List.set_cons_succ])
          refine PlanT.take0 (v := ?vP1) (by kernel_rfl) ?yP1 ?rP1
          case yP1 => (intro wz hz; go_simp; try with_reducible rfl)
          (try simp only [Act.put, List.setIfInBounds_toArray, List.set_cons_zero, List.set_cons_succ])
          refine PlanT.take0 (v := ?vP2) (by kernel_rfl) ?yP2 ?rP2
          case yP2 => (intro wz hz; go_simp; try with_reducible rfl)
          (try simp only [Act.put, List.setIfInBounds_toArray, List.set_cons_zero, List.set_cons_succ])
          refine PlanT.take0 (v := ?vP3) (by kernel_rfl) ?yP3 ?rP3
          case yP3 => (intro wz hz; have c0 := (hz.cell (p := ⟨gb, ob, none⟩) hgbw).trans b0; have c1 := (hz.cell (p := ⟨gb, ob + 1, none⟩) hgbw).trans b1; have c2 := (hz.cell (p := ⟨gb, ob + 2, none⟩) hgbw).trans b2; have c3 := (hz.cell (p := ⟨gb, ob + 3, none⟩) hgbw).trans b3; go_simp; try with_reducible rfl)
          (try simp only [Act.put, List.setIfInBounds_toArray, List.set_cons_zero, List.set_cons_succ])
          refine PlanT.take1 (v := ?vP6) (by kernel_rfl) ?yP6 ?rP6
          case yP6 => (intro wz hz; go_simp; try with_reducible rfl)
          (try simp only [Act.put, List.setIfInBounds_toArray, List.set_cons_zero, List.set_cons_succ])
          refine PlanT.take1 (v := .slice (some ⟨gb, mb, none⟩) (nb - 1) (kb - 1)) (by kernel_rfl) ?yP7 ?rP7
          case yP7 => (intro wz hz; go_simp; exact HMB.out)
          (try simp only [Act.put, List.setIfInBounds_toArray, List.set_cons_zero, List.set_cons_succ])
          refine PlanT.exec2 (fun K hK => ⟨by kernel_rfl, ?_⟩)
          go_simp
          refine hK.out _ _ ((Below.refl _ _).alloc (Nat.le_refl _) _) trivial ?_
          clear hK K
          (try simp only [Act.put, List.setIfInBounds_toArray, List.set_cons_zero, List.set_cons_succ])
          refine PlanT.exec3 (fun K hK => ⟨by kernel_rfl, ?_⟩)
          refine wp_append_at (.tmp 33) (.tmp 37) 25 rfl 38 4 48 (.agg #[.string ⟨#[]⟩, .int .i64 0, .int .i64 0, .string ⟨#[]⟩]) Try.underlying25 info_ent rfl (by decide) (.slice la ln lc) (.slice (some ⟨wq.drew.heap.size, 0, none⟩) 1 1) ln 1 (out.flatMap Ent.cells) ([⟨yu, ys, yk, yv⟩].flatMap Ent.cells) ?q1P ?q2P ?q3P ?q4P (entFlat_one _) ?q5P ?q6P ?_
          case q1P => rfl
          case q2P => rfl
          case q3P => exact World.ownsRow.drew (World.ownsRow.alloc HOR.out _)
          case q4P => exact one_entry wq.drew ⟨yu, ys, yk, yv⟩
          case q5P => (have := HLN.out; omega)
          case q6P => (have := HLN.out; unfold maxLen; omega)
          intro v' w' hown hmv
          obtain ⟨sv, cv, rfl, _, _⟩ := rd_of_own hown
          have hpush := own_pushed (e := ⟨yu, ys, yk, yv⟩) HOW.out HBB.out hown hmv HLL.out
          have HPU := Lib.hid hpush
          clear hown hmv hpush
          refine hK.out _ _ trivial ?_
          clear hK K
          (try simp only [Act.put, List.setIfInBounds_toArray, List.set_cons_zero, List.set_cons_succ])
          refine PlanT.take1 (v := ?vP8) (by kernel_rfl) ?yP8 ?rP8
          case yP8 => (intro wz hz; go_simp; try with_reducible rfl)
          (try simp only [Act.put, List.setIfInBounds_toArray, List.set_cons_zero, List.set_cons_succ])
          refine PlanT.take1 (v := ?vP9) (by kernel_rfl) ?yP9 ?rP9
          case yP9 => (intro wz hz; go_simp; try with_reducible rfl)
          (try simp only [Act.put, List.setIfInBounds_toArray, List.set_cons_zero, List.set_cons_succ])
          refine PlanT.done (NoPanic.normal ?_)
          go_wp2
          refine ⟨⟨⟨xu, xs, xk, xv⟩ :: ar, br, out ++ [⟨yu, ys, yk, yv⟩], some ⟨ga, oa, none⟩, some ⟨gb, mb, none⟩, sv, ka, kb - 1, cv, by rw [HNA.out], by rw [HDB.out], by rw [HPU.out.2.1], by rw [HNA.out]; exact HA, HFB, Lib.hid (by rw [HPU.out.2.1]; exact HPU.out.1), HJ2, Lib.hid HPU.out.2.2⟩, by simp only [lenV]; omega⟩
end Go.Proofs.Ytnmmeaoapfampaa

/-
  Package merge: entries of all lists as one.
-/
namespace Go.Proofs.Ytnmmeaoapfampaa
open Go.RowKit

theorem SmallE.fits_of {w : World} {v : Value} {ls : List (List Ent)} (h : RdLE w v ls) {e : Ent} (he : e ∈ ls.flatten) : e.fits := by
  obtain ⟨l, hl, he⟩ := List.mem_flatten.1 he
  obtain ⟨i, hi, rfl⟩ := List.mem_iff_getElem.1 hl
  obtain ⟨cs, ⟨_, _, _, _, _, h0, _⟩, h5⟩ := h
  exact (h5 i (cs[i]'(by omega)) _ (List.getElem?_eq_getElem (by omega)) (List.getElem?_eq_getElem hi)).2 e he

set_option maxRecDepth 100000 in
set_option maxHeartbeats 1000000 in
theorem merge_ind : ∀ (k : Nat) (v : Value) (ls : List (List Ent)) (w : World) (_ : RdLE w v ls) (_ : ls.length ≤ k) (_ : k ≤ 1000) (_ : SmallE ls.flatten),
    Calls Try.prog 13 #[v] w fun e w' => ∃ x, e = .returned x ∧ OwnE w' w.heap.size x (mergeE ls) ∧ Below w.heap.size w w'
  | k, v, [], w, h, hk, hk2, hs => by
    obtain ⟨la, lc, rfl, _, _⟩ := h.form
    have HF : Hid (∀ w' : World, w' = w → OwnE w' w.heap.size (.slice none 0 0) (mergeE []) ∧ Below w.heap.size w w') := Lib.hid fun w' e => by subst e; exact ⟨World.ownsRow_nil _ _ _ _, Below.refl _ _⟩
    clear h hk hs
    go_enter Try.func13, Try.ntmps13
    go_wp2
    go_ret
    exact ⟨_, rfl, HF.out _ rfl⟩
  | k, v, [l], w, h, hk, hk2, hs => by
    obtain ⟨la, lc, rfl, _, _⟩ := h.form
    obtain ⟨b, o, a, cap, rfl, hcell, hr, hb⟩ := h.at_ (i := 0) (l := l) rfl
    have hl : l.length ≤ 1000 := by have := hs.1; simpa using this
    have HI : Hid (∀ wz, Below w.heap.size w wz → Calls Try.prog 21 #[.slice a l.length cap] wz fun e w' => ∃ x, e = .returned x ∧ OwnE w' wz.heap.size x (sortE l) ∧ Below wz.heap.size wz w') := Lib.hid fun wz hz => inOrder_any _ l wz (hr.below hz (Nat.le_refl _)) hl
    rw [Nat.add_zero] at hcell
    have HM : Hid (sortE l = mergeE [l]) := Lib.hid (by unfold mergeE; simp)
    clear h hk hs hr hl
    generalize l.length = nl at *
    rw [show [l].length = 1 from rfl]
    go_enter Try.func13, Try.ntmps13
    go_wp2_with (go_at_call 21; (refine (HI.out _ (by first | exact Below.refl _ _ | exact (Below.refl _ _).drew)).mono ?_); rintro e w1 ⟨v1, rfl, ho1, hb1⟩; have HO1 := Lib.hid ho1; have HB1 := Lib.hid hb1; clear ho1 hb1)
    go_ret
    refine ⟨_, rfl, ?_, HB1.out⟩
    rw [← HM.out]
    exact HO1.out
  | 0, v, l1 :: l2 :: lr, w, h, hk, hk2, hs => by simp at hk
  | k + 1, v, l1 :: l2 :: lr, w, h, hk, hk2, hs => by
    obtain ⟨ls, hls⟩ : ∃ ls, ls = l1 :: l2 :: lr := ⟨_, rfl⟩
    rw [← hls] at h hk hs ⊢
    have hn2 : 2 ≤ ls.length := by rw [hls]; simp
    clear hls
    obtain ⟨la, lc, rfl, hlc, hlm⟩ := h.form
    obtain ⟨b, o, rfl⟩ : ∃ b o, la = some ⟨b, o, none⟩ := by
      obtain ⟨b, o, _, _, e, _⟩ := h.at_ (i := 0) (l := ls[0]'(by omega)) (List.getElem?_eq_getElem (by omega))
      exact ⟨b, o, e⟩
    obtain ⟨m, hm⟩ : ∃ m, m = ls.length / 2 := ⟨_, rfl⟩
    have hm1 : 1 ≤ m := by omega
    have hmn : m < ls.length := by omega
    obtain ⟨o2, ho2⟩ : ∃ o2, (if lc = m then some (⟨b, o, none⟩ : Addr) else some ⟨b, o + m, none⟩) = some ⟨b, o2, none⟩ := by split <;> exact ⟨_, rfl⟩
    have hf1 : RdLE w (.slice (some ⟨b, o, none⟩) m lc) (ls.take m) := h.front m (by omega)
    have hf2 : RdLE w (.slice (some ⟨b, o2, none⟩) (ls.length - m) (lc - m)) (ls.drop m) := h.from_ m (by omega) (fun _ => by rw [if_neg (by omega)] at ho2; simpa using ho2.symm) rfl rfl
    have hflat : ls.flatten = (ls.take m).flatten ++ (ls.drop m).flatten := by rw [← List.flatten_append, List.take_append_drop]
    have hs1 : SmallE (ls.take m).flatten := ⟨by have := hs.1; rw [hflat, List.length_append] at this; omega, fun e he => hs.2 e (by rw [hflat]; exact List.mem_append.2 (.inl he))⟩
    have hs2 : SmallE (ls.drop m).flatten := ⟨by have := hs.1; rw [hflat, List.length_append] at this; omega, fun e he => hs.2 e (by rw [hflat]; exact List.mem_append.2 (.inr he))⟩
    have HM1 : Hid (∀ wz, Below w.heap.size w wz → Calls Try.prog 13 #[.slice (some ⟨b, o, none⟩) m lc] wz fun e w' => ∃ x, e = .returned x ∧ OwnE w' wz.heap.size x (mergeE (ls.take m)) ∧ Below wz.heap.size wz w') := Lib.hid fun wz hz => merge_ind k _ (ls.take m) wz (hf1.below hz (Nat.le_refl _)) (by rw [List.length_take]; omega) (by omega) hs1
    have HM2 : Hid (∀ wz, Below w.heap.size w wz → Calls Try.prog 13 #[.slice (some ⟨b, o2, none⟩) (ls.length - m) (lc - m)] wz fun e w' => ∃ x, e = .returned x ∧ OwnE w' wz.heap.size x (mergeE (ls.drop m)) ∧ Below wz.heap.size wz w') := Lib.hid fun wz hz => merge_ind k _ (ls.drop m) wz (hf2.below hz (Nat.le_refl _)) (by rw [List.length_drop]; omega) (by omega) hs2
    have hff : ∀ e ∈ ls.flatten, e.fits := fun e he => SmallE.fits_of h he
    have HJ : Hid (∀ (x1 x2 : Value) (wz : World) {B1 B2 : Nat}, OwnE wz B1 x1 (mergeE (ls.take m)) → OwnE wz B2 x2 (mergeE (ls.drop m)) → Calls Try.prog 22 #[x1, x2] wz fun e w' => ∃ x, e = .returned x ∧ OwnE w' wz.heap.size x (mergeE ls) ∧ Below wz.heap.size wz w') := Lib.hid fun x1 x2 wz B1 B2 h1 h2 => by
      have := join_any x1 x2 _ _ wz (h1.read fun e he => hff e (by rw [hflat]; exact List.mem_append.2 (.inl (sort_sub he)))) (h2.read fun e he => hff e (by rw [hflat]; exact List.mem_append.2 (.inr (sort_sub he)))) (sort_up _) (sort_up _) (Nat.le_trans (sort_len _) hs1.1) (Nat.le_trans (sort_len _) hs2.1)
      rw [merge_parts, List.take_append_drop] at this
      exact this
    have HMO := Lib.hid ho2
    obtain ⟨n, hn⟩ : ∃ n, ls.length = n := ⟨_, rfl⟩
    rw [hn] at hm hmn hn2 hlc HM2 ⊢
    have HMM := Lib.hid hm
    have g1 : (n : Int) / 2 = (m : Int) := by omega
    have g2 : (n : Int).tdiv 2 = (m : Int) := by rw [Int.tdiv_eq_ediv_of_nonneg (by omega)]; omega
    have g3 : ¬ (n : Int) = 0 := by omega
    have g4 : ¬ (n : Int) = 1 := by omega
    have g5 : (m : Int) ≤ (n : Int) := by omega
    have g6 : m ≤ lc := by omega
    have g7 : m ≤ n := by omega
    have hnn : n ≤ 1000 := by omega
    have HLL := Lib.hid hlc
    obtain ⟨w0, hw0⟩ : ∃ w0, w0 = w.drew := ⟨_, rfl⟩
    have HB0 : Hid (Below w.heap.size w w0) := Lib.hid (by rw [hw0]; exact (Below.refl _ _).drew)
    have HW0 := Lib.hid hw0
    clear h hk hs hm hf1 hf2 hflat hs1 hs2 hff ho2 hn hw0 hlm hk2
    go_enter Try.func13, Try.ntmps13
    go_wp2
    refine wp_region_plan [(true, 0), (true, 1), (true, 2), (true, 4), (true, 5), (true, 6), (false, 3), (false, 7), (false, 8), (true, 9)] (by kernel_rfl) (by kernel_rfl) (by kernel_rfl) (by kernel_rfl) (by kernel_rfl) ?_
    simp only [planO, List.drop_succ_cons, List.drop_zero]
    rw [← HW0.out]
    refine PlanO.take (v := ?v0) (by kernel_rfl) ?y0 ?r0
    case y0 => (intro wz hz; go_simp; try with_reducible rfl)
    (try simp only [Act.put, List.setIfInBounds_toArray, List.set_cons_zero, List.set_cons_succ])
    refine PlanO.take (v := ?v1) (by kernel_rfl) ?y1 ?r1
    case y1 => (intro wz hz; go_simp; try with_reducible rfl)
    (try simp only [Act.put, List.setIfInBounds_toArray, List.set_cons_zero, List.set_cons_succ])
    refine PlanO.take (v := ?v2) (by kernel_rfl) ?y2 ?r2
    case y2 => (intro wz hz; go_simp; try with_reducible rfl)
    (try simp only [Act.put, List.setIfInBounds_toArray, List.set_cons_zero, List.set_cons_succ])
    refine PlanO.take (v := ?v4) (by kernel_rfl) ?y4 ?r4
    case y4 => (intro wz hz; go_simp; try with_reducible rfl)
    (try simp only [Act.put, List.setIfInBounds_toArray, List.set_cons_zero, List.set_cons_succ])
    refine PlanO.take (v := ?v5) (by kernel_rfl) ?y5 ?r5
    case y5 => (intro wz hz; go_simp; try with_reducible rfl)
    (try simp only [Act.put, List.setIfInBounds_toArray, List.set_cons_zero, List.set_cons_succ])
    refine PlanO.take (v := .slice (some ⟨b, o2, none⟩) (n - m) (lc - m)) (by kernel_rfl) ?y6 ?r6
    case y6 => (intro wz hz; go_simp; exact HMO.out)
    (try simp only [Act.put, List.setIfInBounds_toArray, List.set_cons_zero, List.set_cons_succ])
    refine PlanO.exec (fun K hK => ?_)
    go_simp
    go_at_call 13
    (refine (HM1.out _ HB0.out).mono ?_)
    rintro e w1 ⟨v1, rfl, ho1, hb1⟩
    have HO1 := Lib.hid ho1
    have HB1 : Hid (Ext w0 w1) := Lib.hid hb1
    have HC1 := Lib.hid (belowT HB0.out hb1)
    clear ho1 hb1
    obtain ⟨a1, c1, rfl, _, _⟩ := HO1.out.form
    go_wp2_with fail
    refine hK.out _ _ HB1.out ?_
    clear hK K
    (try simp only [Act.put, List.setIfInBounds_toArray, List.set_cons_zero, List.set_cons_succ])
    refine PlanO.exec (fun K hK => ?_)
    go_simp
    go_at_call 13
    (refine (HM2.out _ HC1.out).mono ?_)
    rintro e w2 ⟨v2, rfl, ho2, hb2⟩
    have HO2 := Lib.hid ho2
    have HB2 : Hid (Ext w1 w2) := Lib.hid hb2
    have HC2 := Lib.hid (belowT HC1.out hb2)
    clear ho2 hb2
    obtain ⟨a2, c2, rfl, _, _⟩ := HO2.out.form
    go_wp2_with fail
    refine hK.out _ _ HB2.out ?_
    clear hK K
    (try simp only [Act.put, List.setIfInBounds_toArray, List.set_cons_zero, List.set_cons_succ])
    refine PlanO.exec (fun K hK => ?_)
    go_simp
    go_at_call 22
    (refine (HJ.out _ _ w2 (HO1.out.below HB2.out) HO2.out).mono ?_)
    rintro e w3 ⟨v3, rfl, ho3, hb3⟩
    have HO3 := Lib.hid ho3
    have HB3 : Hid (Ext w2 w3) := Lib.hid hb3
    have HC3 := Lib.hid (belowT HC2.out hb3)
    clear ho3 hb3
    obtain ⟨a3, c3, rfl, _, _⟩ := HO3.out.form
    go_wp2_with fail
    refine hK.out _ _ HB3.out ?_
    clear hK K
    (try simp only [Act.put, List.setIfInBounds_toArray, List.set_cons_zero, List.set_cons_succ])
    refine PlanO.take (v := ?v9) (by kernel_rfl) ?y9 ?r9
    case y9 => (intro wz hz; go_simp; try with_reducible rfl)
    (try simp only [Act.put, List.setIfInBounds_toArray, List.set_cons_zero, List.set_cons_succ])
    refine PlanO.done (NoPanic.normal ?_)
    go_wp2
    go_ret
    exact ⟨_, rfl, own_monoE HO3.out HC2.out.size, HC3.out⟩

theorem mergeC_any : MergeC := fun v ls w h hl hs => merge_ind ls.length v ls w h (Nat.le_refl _) hl hs
end Go.Proofs.Ytnmmeaoapfampaa
