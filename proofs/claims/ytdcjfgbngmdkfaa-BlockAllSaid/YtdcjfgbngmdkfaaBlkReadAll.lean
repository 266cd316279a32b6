/-
  Blocks: all entries that bytes tell, as the program reads them.
-/
import Derived.Test.YtdcjfgbngmdkfaaBlkRead
import Derived.Test.YtdcjfgbngmdkfaaMoves
import Derived.Test.YtdcjfgbngmdkfaaRegion
import Derived.Deep.Cut
namespace Go.Proofs.Ytdcjfgbngmdkfaa
open Go.RowKit

theorem readP_bounds {c last : List UInt8} {p g : Nat} {e : Ent} (h : readP c last p = some (e, g)) : e.u.size ≤ last.length + 64 ∧ e.v.size ≤ c.length ∧ 0 ≤ e.s ∧ e.s ≤ 9007199254740992 ∧ 0 ≤ e.k ∧ e.k ≤ 2 ∧ p < g ∧ g ≤ c.length := by
  unfold readP at h
  cases h1 : getAt c (p : Int) with
  | none => rw [h1] at h; cases h
  | some x =>
    obtain ⟨s, a⟩ := x
    rw [h1] at h; simp only at h
    split at h
    · cases h
    · rename_i hs
      cases h2 : keyAt c (a : Int) with
      | none => rw [h2] at h; cases h
      | some x =>
        obtain ⟨⟨u, q, k⟩, d⟩ := x
        rw [h2] at h; simp only at h
        cases h4 : textAt c (d : Int) with
        | none => rw [h4] at h; cases h
        | some x =>
          obtain ⟨v, g'⟩ := x
          rw [h4] at h; simp only at h
          simp only [Option.some.injEq, Prod.mk.injEq] at h
          obtain ⟨rfl, rfl⟩ := h
          obtain ⟨u', q', k', d', ok, e2, t2, n2, bu, bd, bq1, bq2, bk1, bk2⟩ := ansK_form c (a : Int)
          cases ok with
          | false => rw [n2 rfl] at h2; cases h2
          | true =>
            rw [(t2 rfl).1] at h2
            simp only [Option.some.injEq, Prod.mk.injEq] at h2
            obtain ⟨⟨rfl, rfl, rfl⟩, rfl⟩ := h2
            obtain ⟨p', hp', g1, g2, _⟩ := getAt_some h1
            have hd := (t2 rfl).2
            obtain ⟨b1, b2, b3⟩ := textAt_bound h4
            refine ⟨?_, ?_, bq1, bq2, bk1, bk2, by omega, b2⟩
            · show (strB (last.take s ++ u')).size ≤ _
              rw [strB_size, List.length_append, List.length_take]
              omega
            · show (strB v).size ≤ _
              rw [strB_size]
              exact b1

theorem wf_i64 {n : Int} (h1 : -9223372036854775808 ≤ n) (h2 : n ≤ 9223372036854775807) : (Lit.int .i64 n).wf = true := by
  simp only [Lit.wf, IntKind.min, IntKind.max, IntKind.signed, IntKind.bits]
  simp
  omega

section
variable {W w w' : World} {B : Nat} {x v' : Value} {l n : List Ent}
theorem ownE_moved {x' : Value} {e : Ent} (h : w.ownsRow B 36 4 x l.length (l.flatMap Ent.cells)) (hB : B ≤ w.heap.size) (ho : w'.ownsRow 0 36 4 x' (l.length + 1) (l.flatMap Ent.cells ++ [e].flatMap Ent.cells)) (hm : Moves w w' x x') : OwnE w' B x' (l ++ [e]) := by
  have := own_base (B' := B) ho fun k hk => by
    rcases hm.at_ k hk with h1 | h1
    · exact (World.ownsRow.lt h k h1).1
    · exact Nat.le_trans hB h1.1
  unfold OwnE
  rw [List.length_append, List.flatMap_append]
  exact this
theorem belowE_moved (h : w.ownsRow B 36 4 x l.length (l.flatMap Ent.cells)) (hB : B ≤ w.heap.size) (hbe : Below B W w) (hm : Moves w w' x v') : Below B W w' := by
  have hk := hm.kept (R := fun k => k < w.heap.size ∧ x.ownBlock ≠ some k) fun k hk => hk
  exact Kept.below ((Kept.of hbe (R := fun k => k < B) fun _ h => h).trans (hk.mono fun k hk => ⟨Nat.lt_of_lt_of_le hk hB, fun e => by have := (World.ownsRow.lt h k e).1; omega⟩)) fun _ h => h
end

/-- What a call tells that reads all entries. -/
def RetAll (w : World) (c : List UInt8) (e : Ending) (w' : World) : Prop :=
  ∃ (acc : List Ent) (x : Value) (ok : Bool), e = .returned (.tuple #[x, .bool ok]) ∧ OwnE w' w.heap.size x acc ∧ (∀ e ∈ acc, e.fits) ∧ acc.length ≤ 64 ∧ (∀ es, IsBody c es → es.length ≤ 64 → ok = true ∧ es = acc) ∧ (ok = false → acc = []) ∧ Below w.heap.size w w'
theorem RetAll.no {w w' : World} {c : List UInt8} (h : ∀ es, IsBody c es → 64 < es.length) (hb : Below w.heap.size w w') : RetAll w c (.returned (.tuple #[.slice none 0 0, .bool false])) w' :=
  ⟨[], _, false, rfl, World.ownsRow_nil _ _ _ _, (fun _ h => by cases h), by simp, fun es he hl => by have := h es he; omega, fun _ => rfl, hb⟩

set_option maxRecDepth 100000 in
set_option maxHeartbeats 400000 in
theorem readAll_any (v : Value) (c : List UInt8) (w : World) (hv : RdB w v c) (hc : c.length ≤ 1000000) : Calls Try.prog 30 #[v] w (RetAll w c) := by
  have HV := Lib.hid hv
  obtain ⟨va, vc, rfl, hc1, hc2⟩ := hv.form
  unfold maxLen at hc2
  clear hv
  go_enter Try.func30, Try.ntmps30
  go_wp2
  go_loopw [4, 5, 6] (fun l last at_ wr => ∃ (acc : List Ent) (p : Nat) (L : ByteArray), acc.length ≤ 64 ∧ p ≤ 1000000 ∧ at_ = .int .i64 (p : Int) ∧ last = .string L ∧ L.size ≤ 64 * acc.length ∧ Hid (OwnE wr w.heap.size l acc) ∧ Hid (Par c acc p) ∧ Hid (L.data.toList = prevU acc acc.length) ∧ Hid (∀ e ∈ acc, e.fits) ∧ Hid (Below w.heap.size w wr)) (fun _ _ at_ _ => 1000000 - (intOf at_).toNat)
  case atStart => exact ⟨[], 0, ⟨#[]⟩, by simp, by omega, rfl, rfl, by simp [ByteArray.size], Lib.hid (World.ownsRow_nil _ _ _ _), Lib.hid (Par.start c), Lib.hid rfl, Lib.hid (fun e h => by cases h), Lib.hid (Below.refl _ _)⟩
  case round =>
    obtain ⟨acc, p, L, hacc, hp1, rfl, rfl, hL, HO, HP, HLS, HFI, HB⟩ := hrel
    obtain ⟨la, lc, hla, hlc1, hlc2⟩ := HO.out.form
    subst hla
    unfold maxLen at hlc2
    by_cases hpE : p < c.length
    · have k1 : decide ((p : Int) < (c.length : Int)) = true := by simp; omega
      have hrd := read_any (.slice va c.length vc) c L p wr (HV.out.below HB.out (Nat.le_refl _)) (by omega)
      cases hr : readP c L.data.toList p with
      | none =>
        rw [hr] at hrd
        have HRD := Lib.hid (show Calls Try.prog 36 #[.slice va c.length vc, .int .i64 (p : Int), .string L] wr fun e w' => e = .returned (.tuple #[.agg #[.string ⟨#[]⟩, .int .i64 0, .int .i64 0, .string ⟨#[]⟩], .int .i64 0, .bool false]) ∧ Below wr.heap.size wr w' from hrd)
        have HNO : Hid (∀ es, ¬ IsBody c es) := Lib.hid fun es he => by
          obtain ⟨h1, h2, h3⟩ := HP.out es he
          have hlt : acc.length < es.length := (he.at_end h1).1 (by rw [← h3]; exact hpE)
          have := step_read (he.step hlt) (he.may _ hlt)
          rw [← prevU_acc h2, ← h3, ← HLS.out, hr] at this
          cases this
        clear hrd hr
        go_wp2_with (first | (go_at_call 36; (refine (HRD.out).mono ?_); rintro e w3 ⟨rfl, hb3⟩; have HB3 := Lib.hid (HB.out.trans (hb3.mono HB.out.size)); have HO3 := Lib.hid (HO.out.below hb3); clear hb3))
        go_ret2
        exact RetAll.no (fun es he => absurd he (HNO.out es)) (HB3.out.alloc HB3.out.size _)
      | some x =>
        obtain ⟨⟨xu, xs, xk, xv⟩, g⟩ := x
        rw [hr] at hrd
        obtain ⟨b1, b2, b3, b4, b5, b6, b7, b8⟩ := readP_bounds hr
        simp only at b1 b2 b3 b4 b5 b6
        rw [size_list] at b1
        have HP2 := Lib.hid (HP.out.more hpE (by rw [← HLS.out]; exact read_step hr))
        have HRD := Lib.hid (show Calls Try.prog 36 #[.slice va c.length vc, .int .i64 (p : Int), .string L] wr fun e w' => e = .returned (.tuple #[.agg #[.string xu, .int .i64 xs, .int .i64 xk, .string xv], .int .i64 (g : Int), .bool true]) ∧ Below wr.heap.size wr w' from hrd)
        clear hrd hr
        by_cases h64 : acc.length = 64
        · have k2 : ((acc.length : Int) == 64) = true := by
            have : (acc.length : Int) = 64 := by omega
            simpa using this
          have HNO : Hid (∀ es, IsBody c es → 64 < es.length) := Lib.hid fun es he => by
            obtain ⟨h1, h2, h3⟩ := HP.out es he
            have hlt : acc.length < es.length := (he.at_end h1).1 (by rw [← h3]; exact hpE)
            omega
          clear HP2 h64
          go_wp2_with (first | (go_at_call 36; (refine (HRD.out).mono ?_); rintro e w3 ⟨rfl, hb3⟩; have HB3 := Lib.hid (HB.out.trans (hb3.mono HB.out.size)); have HO3 := Lib.hid (HO.out.below hb3); clear hb3))
          go_ret2
          exact RetAll.no HNO.out (HB3.out.alloc HB3.out.size _)
        · have k2 : ((acc.length : Int) == 64) = false := by
            have : (acc.length : Int) ≠ 64 := by omega
            simpa using this
          have hac2 : acc.length < 64 := by omega
          have HFX : Hid (Ent.fits ⟨xu, xs, xk, xv⟩) := Lib.hid ⟨by unfold maxLen; simp only; omega, by unfold maxLen; simp only; omega, wf_i64 (by simp only; omega) (by simp only; omega), wf_i64 (by simp only; omega) (by simp only; omega)⟩
          clear h64 hpE
          go_upto_region 9 with (first | (go_at_call 36; (refine (HRD.out).mono ?_); rintro e w3 ⟨rfl, hb3⟩; have HB3 := Lib.hid (HB.out.trans (hb3.mono HB.out.size)); have HO3 := Lib.hid (HO.out.below hb3); clear hb3; have HBX : Hid (((w3.alloc (.cells #[.string xu, .int .i64 xs, .int .i64 xk, .string xv] 36)).alloc (.cells #[.string xu, .int .i64 xs, .int .i64 xk, .string xv] 36)).heap[w3.heap.size]? = some (.cells #[.string xu, .int .i64 xs, .int .i64 xk, .string xv] 36 (0, 0))) := Lib.hid ((Below.block ((Below.refl _ _).alloc (Nat.le_refl _) _) _ (by simp)).trans (heap_alloc_new w3 _)); have HRE : Hid (Rd ((w3.alloc (.cells #[.string xu, .int .i64 xs, .int .i64 xk, .string xv] 36)).alloc (.cells #[.string xu, .int .i64 xs, .int .i64 xk, .string xv] 36)) 4 (.slice (some ⟨w3.heap.size + 1, 0, none⟩) 1 1) 1 ([(⟨xu, xs, xk, xv⟩ : Ent)].flatMap Ent.cells)) := Lib.hid (by have h := one_entry (w3.alloc (.cells #[.string xu, .int .i64 xs, .int .i64 xk, .string xv] 36)) ⟨xu, xs, xk, xv⟩; rw [show (w3.alloc (.cells #[.string xu, .int .i64 xs, .int .i64 xk, .string xv] 36)).heap.size = w3.heap.size + 1 by simp] at h; exact h); have HNB : Hid ((Value.slice la acc.length lc).ownBlock ≠ some w3.heap.size) := Lib.hid (fun e => by have := (World.ownsRow.lt HO3.out _ e).2; omega)) | (at_builtin; refine wpList_plain rfl fun K' hK' => ?_; refine wp_append_at (.tmp 29) (.tmp 31) 22 rfl 36 4 48 (.agg #[.string ⟨#[]⟩, .int .i64 0, .int .i64 0, .string ⟨#[]⟩]) Try.underlying22 info_ent rfl (by decide) _ _ _ 1 _ ([(⟨xu, xs, xk, xv⟩ : Ent)].flatMap Ent.cells) rfl rfl (World.ownsRow.alloc (World.ownsRow.alloc (own_base HO3.out fun _ _ => Nat.zero_le _) _) _) HRE.out (entFlat_one _) (by omega) (by unfold maxLen; omega) (fun v' w' hown hmv => hK' _ _ ?_); have hbx := (hmv.grown.block w3.heap.size (by simp; omega) (fun e => HNB.out e.symm)).trans HBX.out; have HBX2 := Lib.hid hbx; have HOW := Lib.hid (ownE_moved (World.ownsRow.alloc (World.ownsRow.alloc HO3.out _) _) (Nat.le_trans HB3.out.size (by simp; omega)) hown hmv); have HBE := Lib.hid (belowE_moved (World.ownsRow.alloc (World.ownsRow.alloc HO3.out _) _) (Nat.le_trans HB3.out.size (by simp; omega)) ((HB3.out.alloc HB3.out.size _).alloc (Nat.le_trans HB3.out.size (by simp)) _) hmv); clear hown hmv hbx))
          have x0 := blk_cell (i := 0) HBX2.out
          replace x0 : w'.cell? ⟨w3.heap.size, 0, none⟩ = some (.string xu) := x0
          refine wp_region_plan [(true, 0), (true, 1), (true, 2), (true, 3), (true, 4), (true, 5)] (by kernel_rfl) (by kernel_rfl) (by kernel_rfl) (by kernel_rfl) (by kernel_rfl) ?_
          simp only [planO, List.drop_succ_cons, List.drop_zero]
          refine PlanO.take (v := ?v0) (by kernel_rfl) ?y0 ?r0
          case y0 => (intro wz hz; go_simp; try with_reducible rfl)
          (try simp only [Act.put, List.setIfInBounds_toArray, List.set_cons_zero, List.set_cons_succ])
          refine PlanO.take (v := .pointer (some ⟨w3.heap.size, 0, none⟩)) (by kernel_rfl) ?y1 ?r1
          case y1 => (intro wz hz; go_simp; try with_reducible rfl)
          (try simp only [Act.put, List.setIfInBounds_toArray, List.set_cons_zero, List.set_cons_succ])
          refine PlanO.take (v := .pointer (some ⟨w3.heap.size, 0, none⟩)) (by kernel_rfl) ?y2 ?r2
          case y2 => (intro wz hz; go_simp; try with_reducible rfl)
          (try simp only [Act.put, List.setIfInBounds_toArray, List.set_cons_zero, List.set_cons_succ])
          refine PlanO.take (v := .string xu) (by kernel_rfl) ?y3 ?r3
          case y3 => (intro wz hz; have c0 := Ext.at_ hz x0; go_simp; try with_reducible rfl)
          (try simp only [Act.put, List.setIfInBounds_toArray, List.set_cons_zero, List.set_cons_succ])
          refine PlanO.take (v := ?v4) (by kernel_rfl) ?y4 ?r4
          case y4 => (intro wz hz; go_simp; try with_reducible rfl)
          (try simp only [Act.put, List.setIfInBounds_toArray, List.set_cons_zero, List.set_cons_succ])
          refine PlanO.take (v := ?v5) (by kernel_rfl) ?y5 ?r5
          case y5 => (intro wz hz; go_simp; try with_reducible rfl)
          (try simp only [Act.put, List.setIfInBounds_toArray, List.set_cons_zero, List.set_cons_succ])
          refine PlanO.done (NoPanic.normal ?_)
          go_wp2
          refine ⟨⟨acc ++ [⟨xu, xs, xk, xv⟩], g, xu, by simp; omega, by omega, rfl, rfl, by simp; omega, Lib.hid (HOW.out.below (Below.refl _ _).drew), HP2, Lib.hid ?_, Lib.hid ?_, Lib.hid HBE.out.drew⟩, by simp [intOf]; omega⟩
          · rw [show (acc ++ [(⟨xu, xs, xk, xv⟩ : Ent)]).length = acc.length + 1 by simp, prevU_snoc]
          · intro e he
            rcases List.mem_append.1 he with he | he
            · exact HFI.out e he
            · rw [List.mem_singleton.1 he]
              exact HFX.out
    · have k1 : decide ((p : Int) < (c.length : Int)) = false := by simp; omega
      have k1n : decide (p < c.length) = false := by simp; omega
      have HQ := Lib.hid (show ∀ es, IsBody c es → es = acc from fun es he => HP.out.end_ hpE he)
      clear hpE
      go_wp2
      go_ret2
      exact ⟨acc, _, true, rfl, HO.out, HFI.out, hacc, fun es he _ => ⟨rfl, HQ.out es he⟩, (fun h => by cases h), HB.out⟩
end Go.Proofs.Ytdcjfgbngmdkfaa
