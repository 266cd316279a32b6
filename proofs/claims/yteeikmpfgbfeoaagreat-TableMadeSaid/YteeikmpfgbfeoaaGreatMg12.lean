import Derived.Test.YteeikmpfgbfeoaaGreatMg09
import Derived.Test.YteeikmpfgbfeoaaGreatMoves
import Derived.Test.YteeikmpfgbfeoaaGreatRegion
import Derived.Deep.Cut
import Derived.Test.YteeikmpfgbfeoaaGreatBlkGet
import Derived.Test.YteeikmpfgbfeoaaGreatFixedOut
import Derived.Test.YteeikmpfgbfeoaaGreatCells
import Derived.Test.YteeikmpfgbfeoaaGreatMg11
import Derived.Test.YteeikmpfgbfeoaaGreatMg10
import Derived.Test.YteeikmpfgbfeoaaGreatMg04
import Derived.Test.YteeikmpfgbfeoaaGreatMg08
import Derived.Test.YteeikmpfgbfeoaaGreatBlkRPut
import Derived.Test.YteeikmpfgbfeoaaGreatMemMath
import Derived.Laws.EntriesVeiled
import Derived.Test.YteeikmpfgbfeoaaGreatMg06

/-
  Blocks: all entries that bytes tell, as the program reads them.
-/
namespace Go.Proofs.YteeikmpfgbfeoaaGreat
open Go.RowKit

theorem readP_bounds {c last : List UInt8} {p g : Nat} {e : Ent} (h : readP c last p = some (e, g)) : e.u.size ≤ last.length + 64 ∧ e.v.size ≤ c.length ∧ 0 ≤ e.s ∧ e.s ≤ 9007199254740992 ∧ 0 ≤ e.k ∧ e.k ≤ 2 ∧ p < g ∧ g ≤ c.length := by
  unfold readP at h
  cases h1 : getAt c (p : Int) with
  | none => rw [h1] at h; cases h
  | some x =>
    obtain ⟨s, a⟩ := x
    rw [h1] at h; simp only at h
    split at h
    · cases h
    · rename_i hs
      cases h2 : keyAt c (a : Int) with
      | none => rw [h2] at h; cases h
      | some x =>
        obtain ⟨⟨u, q, k⟩, d⟩ := x
        rw [h2] at h; simp only at h
        cases h4 : textAt c (d : Int) with
        | none => rw [h4] at h; cases h
        | some x =>
          obtain ⟨v, g'⟩ := x
          rw [h4] at h; simp only at h
          simp only [Option.some.injEq, Prod.mk.injEq] at h
          obtain ⟨rfl, rfl⟩ := h
          obtain ⟨u', q', k', d', ok, e2, t2, n2, bu, bd, bq1, bq2, bk1, bk2⟩ := ansK_form c (a : Int)
          cases ok with
          | false => rw [n2 rfl] at h2; cases h2
          | true =>
            rw [(t2 rfl).1] at h2
            simp only [Option.some.injEq, Prod.mk.injEq] at h2
            obtain ⟨⟨rfl, rfl, rfl⟩, rfl⟩ := h2
            obtain ⟨p', hp', g1, g2, _⟩ := getAt_some h1
            have hd := (t2 rfl).2
            obtain ⟨b1, b2, b3⟩ := textAt_bound h4
            refine ⟨?_, ?_, bq1, bq2, bk1, bk2, by omega, b2⟩
            · show (strB (last.take s ++ u')).size ≤ _
              rw [strB_size, List.length_append, List.length_take]
              omega
            · show (strB v).size ≤ _
              rw [strB_size]
              exact b1

theorem wf_i64 {n : Int} (h1 : -9223372036854775808 ≤ n) (h2 : n ≤ 9223372036854775807) : (Lit.int .i64 n).wf = true := by
  simp only [Lit.wf, IntKind.min, IntKind.max, IntKind.signed, IntKind.bits]
  simp
  omega

section
variable {W w w' : World} {B : Nat} {x v' : Value} {l n : List Ent}
theorem ownE_moved {x' : Value} {e : Ent} (h : w.ownsRow B 39 4 x l.length (l.flatMap Ent.cells)) (hB : B ≤ w.heap.size) (ho : w'.ownsRow 0 39 4 x' (l.length + 1) (l.flatMap Ent.cells ++ [e].flatMap Ent.cells)) (hm : Moves w w' x x') : OwnE w' B x' (l ++ [e]) := by
  have := own_base (B' := B) ho fun k hk => by
    rcases hm.at_ k hk with h1 | h1
    · exact (World.ownsRow.lt h k h1).1
    · exact Nat.le_trans hB h1.1
  unfold OwnE
  rw [List.length_append, List.flatMap_append]
  exact this
theorem belowE_moved (h : w.ownsRow B 39 4 x l.length (l.flatMap Ent.cells)) (hB : B ≤ w.heap.size) (hbe : Below B W w) (hm : Moves w w' x v') : Below B W w' := by
  have hk := hm.kept (R := fun k => k < w.heap.size ∧ x.ownBlock ≠ some k) fun k hk => hk
  exact Kept.below ((Kept.of hbe (R := fun k => k < B) fun _ h => h).trans (hk.mono fun k hk => ⟨Nat.lt_of_lt_of_le hk hB, fun e => by have := (World.ownsRow.lt h k e).1; omega⟩)) fun _ h => h
end

/-- What a call tells that reads all entries. -/
def RetAll (w : World) (c : List UInt8) (e : Ending) (w' : World) : Prop :=
  ∃ (acc : List Ent) (x : Value) (ok : Bool), e = .returned (.tuple #[x, .bool ok]) ∧ OwnE w' w.heap.size x acc ∧ (∀ e ∈ acc, e.fits) ∧ acc.length ≤ 64 ∧ (∀ es, IsBody c es → es.length ≤ 64 → ok = true ∧ es = acc) ∧ (ok = false → acc = []) ∧ Below w.heap.size w w'
theorem RetAll.no {w w' : World} {c : List UInt8} (h : ∀ es, IsBody c es → 64 < es.length) (hb : Below w.heap.size w w') : RetAll w c (.returned (.tuple #[.slice none 0 0, .bool false])) w' :=
  ⟨[], _, false, rfl, World.ownsRow_nil _ _ _ _, (fun _ h => by cases h), by simp, fun es he hl => by have := h es he; omega, fun _ => rfl, hb⟩

set_option maxRecDepth 100000 in
set_option maxHeartbeats 400000 in
theorem readAll_any (v : Value) (c : List UInt8) (w : World) (hv : RdB w v c) (hc : c.length ≤ 1000000) : Calls Tryz.prog 101 #[v] w (RetAll w c) := by
  have HV := Lib.hid hv
  obtain ⟨va, vc, rfl, hc1, hc2⟩ := hv.form
  unfold maxLen at hc2
  clear hv
  go_enter Tryz.func101, Tryz.ntmps101
  go_wp2
  go_loopw [4, 5, 6] (fun l last at_ wr => ∃ (acc : List Ent) (p : Nat) (L : ByteArray), acc.length ≤ 64 ∧ p ≤ 1000000 ∧ at_ = .int .i64 (p : Int) ∧ last = .string L ∧ L.size ≤ 64 * acc.length ∧ Hid (OwnE wr w.heap.size l acc) ∧ Hid (Par c acc p) ∧ Hid (L.data.toList = prevU acc acc.length) ∧ Hid (∀ e ∈ acc, e.fits) ∧ Hid (Below w.heap.size w wr)) (fun _ _ at_ _ => 1000000 - (intOf at_).toNat)
  case atStart => exact ⟨[], 0, ⟨#[]⟩, by simp, by omega, rfl, rfl, by simp [ByteArray.size], Lib.hid (World.ownsRow_nil _ _ _ _), Lib.hid (Par.start c), Lib.hid rfl, Lib.hid (fun e h => by cases h), Lib.hid (Below.refl _ _)⟩
  case round =>
    obtain ⟨acc, p, L, hacc, hp1, rfl, rfl, hL, HO, HP, HLS, HFI, HB⟩ := hrel
    obtain ⟨la, lc, hla, hlc1, hlc2⟩ := HO.out.form
    subst hla
    unfold maxLen at hlc2
    by_cases hpE : p < c.length
    · have k1 : decide ((p : Int) < (c.length : Int)) = true := by simp; omega
      have hrd := read_any (.slice va c.length vc) c L p wr (HV.out.below HB.out (Nat.le_refl _)) (by omega)
      cases hr : readP c L.data.toList p with
      | none =>
        rw [hr] at hrd
        have HRD := Lib.hid (show Calls Tryz.prog 94 #[.slice va c.length vc, .int .i64 (p : Int), .string L] wr fun e w' => e = .returned (.tuple #[.agg #[.string ⟨#[]⟩, .int .i64 0, .int .i64 0, .string ⟨#[]⟩], .int .i64 0, .bool false]) ∧ Below wr.heap.size wr w' from hrd)
        have HNO : Hid (∀ es, ¬ IsBody c es) := Lib.hid fun es he => by
          obtain ⟨h1, h2, h3⟩ := HP.out es he
          have hlt : acc.length < es.length := (he.at_end h1).1 (by rw [← h3]; exact hpE)
          have := step_read (he.step hlt) (he.may _ hlt)
          rw [← prevU_acc h2, ← h3, ← HLS.out, hr] at this
          cases this
        clear hrd hr
        go_wp2_with (first | (go_at_call 94; (refine (HRD.out).mono ?_); rintro e w3 ⟨rfl, hb3⟩; have HB3 := Lib.hid (HB.out.trans (hb3.mono HB.out.size)); have HO3 := Lib.hid (HO.out.below hb3); clear hb3))
        go_ret2
        exact RetAll.no (fun es he => absurd he (HNO.out es)) (HB3.out.alloc HB3.out.size _)
      | some x =>
        obtain ⟨⟨xu, xs, xk, xv⟩, g⟩ := x
        rw [hr] at hrd
        obtain ⟨b1, b2, b3, b4, b5, b6, b7, b8⟩ := readP_bounds hr
        simp only at b1 b2 b3 b4 b5 b6
        rw [size_list] at b1
        have HP2 := Lib.hid (HP.out.more hpE (by rw [← HLS.out]; exact read_step hr))
        have HRD := Lib.hid (show Calls Tryz.prog 94 #[.slice va c.length vc, .int .i64 (p : Int), .string L] wr fun e w' => e = .returned (.tuple #[.agg #[.string xu, .int .i64 xs, .int .i64 xk, .string xv], .int .i64 (g : Int), .bool true]) ∧ Below wr.heap.size wr w' from hrd)
        clear hrd hr
        by_cases h64 : acc.length = 64
        · have k2 : ((acc.length : Int) == 64) = true := by
            have : (acc.length : Int) = 64 := by omega
            simpa using this
          have HNO : Hid (∀ es, IsBody c es → 64 < es.length) := Lib.hid fun es he => by
            obtain ⟨h1, h2, h3⟩ := HP.out es he
            have hlt : acc.length < es.length := (he.at_end h1).1 (by rw [← h3]; exact hpE)
            omega
          clear HP2 h64
          go_wp2_with (first | (go_at_call 94; (refine (HRD.out).mono ?_); rintro e w3 ⟨rfl, hb3⟩; have HB3 := Lib.hid (HB.out.trans (hb3.mono HB.out.size)); have HO3 := Lib.hid (HO.out.below hb3); clear hb3))
          go_ret2
          exact RetAll.no HNO.out (HB3.out.alloc HB3.out.size _)
        · have k2 : ((acc.length : Int) == 64) = false := by
            have : (acc.length : Int) ≠ 64 := by omega
            simpa using this
          have hac2 : acc.length < 64 := by omega
          have HFX : Hid (Ent.fits ⟨xu, xs, xk, xv⟩) := Lib.hid ⟨by unfold maxLen; simp only; omega, by unfold maxLen; simp only; omega, wf_i64 (by simp only; omega) (by simp only; omega), wf_i64 (by simp only; omega) (by simp only; omega)⟩
          clear h64 hpE
          go_upto_region 9 with (first | (go_at_call 94; (refine (HRD.out).mono ?_); rintro e w3 ⟨rfl, hb3⟩; have HB3 := Lib.hid (HB.out.trans (hb3.mono HB.out.size)); have HO3 := Lib.hid (HO.out.below hb3); clear hb3; have HBX : Hid (((w3.alloc (.cells #[.string xu, .int .i64 xs, .int .i64 xk, .string xv] 39)).alloc (.cells #[.string xu, .int .i64 xs, .int .i64 xk, .string xv] 39)).heap[w3.heap.size]? = some (.cells #[.string xu, .int .i64 xs, .int .i64 xk, .string xv] 39 (0, 0))) := Lib.hid ((Below.block ((Below.refl _ _).alloc (Nat.le_refl _) _) _ (by simp)).trans (heap_alloc_new w3 _)); have HRE : Hid (Rd ((w3.alloc (.cells #[.string xu, .int .i64 xs, .int .i64 xk, .string xv] 39)).alloc (.cells #[.string xu, .int .i64 xs, .int .i64 xk, .string xv] 39)) 4 (.slice (some ⟨w3.heap.size + 1, 0, none⟩) 1 1) 1 ([(⟨xu, xs, xk, xv⟩ : Ent)].flatMap Ent.cells)) := Lib.hid (by have h := one_entry (w3.alloc (.cells #[.string xu, .int .i64 xs, .int .i64 xk, .string xv] 39)) ⟨xu, xs, xk, xv⟩; rw [show (w3.alloc (.cells #[.string xu, .int .i64 xs, .int .i64 xk, .string xv] 39)).heap.size = w3.heap.size + 1 by simp] at h; exact h); have HNB : Hid ((Value.slice la acc.length lc).ownBlock ≠ some w3.heap.size) := Lib.hid (fun e => by have := (World.ownsRow.lt HO3.out _ e).2; omega)) | (at_builtin; refine wpList_plain rfl fun K' hK' => ?_; refine wp_append_at (.tmp 29) (.tmp 31) 22 rfl 39 4 48 (.agg #[.string ⟨#[]⟩, .int .i64 0, .int .i64 0, .string ⟨#[]⟩]) Tryz.underlying22 info_ent rfl (by decide) _ _ _ 1 _ ([(⟨xu, xs, xk, xv⟩ : Ent)].flatMap Ent.cells) rfl rfl (World.ownsRow.alloc (World.ownsRow.alloc (own_base HO3.out fun _ _ => Nat.zero_le _) _) _) HRE.out (entFlat_one _) (by omega) (by unfold maxLen; omega) (fun v' w' hown hmv => hK' _ _ ?_); have hbx := (hmv.grown.block w3.heap.size (by simp; omega) (fun e => HNB.out e.symm)).trans HBX.out; have HBX2 := Lib.hid hbx; have HOW := Lib.hid (ownE_moved (World.ownsRow.alloc (World.ownsRow.alloc HO3.out _) _) (Nat.le_trans HB3.out.size (by simp; omega)) hown hmv); have HBE := Lib.hid (belowE_moved (World.ownsRow.alloc (World.ownsRow.alloc HO3.out _) _) (Nat.le_trans HB3.out.size (by simp; omega)) ((HB3.out.alloc HB3.out.size _).alloc (Nat.le_trans HB3.out.size (by simp)) _) hmv); clear hown hmv hbx))
          have x0 := blk_cell (i := 0) HBX2.out
          replace x0 : w'.cell? ⟨w3.heap.size, 0, none⟩ = some (.string xu) := x0
          refine wp_region_plan [(true, 0), (true, 1), (true, 2), (true, 3), (true, 4), (true, 5)] (by kernel_rfl) (by kernel_rfl) (by kernel_rfl) (by kernel_rfl) (by kernel_rfl) ?_
          simp only [planO, List.drop_succ_cons, List.drop_zero]
          refine PlanO.take (v := ?v0) (by kernel_rfl) ?y0 ?r0
          case y0 => (intro wz hz; go_simp; try with_reducible rfl)
          (try simp only [Act.put, List.setIfInBounds_toArray, List.set_cons_zero, List.set_cons_succ])
          refine PlanO.take (v := .pointer (some ⟨w3.heap.size, 0, none⟩)) (by kernel_rfl) ?y1 ?r1
          case y1 => (intro wz hz; go_simp; try with_reducible rfl)
          (try simp only [Act.put, List.setIfInBounds_toArray, List.set_cons_zero, List.set_cons_succ])
          refine PlanO.take (v := .pointer (some ⟨w3.heap.size, 0, none⟩)) (by kernel_rfl) ?y2 ?r2
          case y2 => (intro wz hz; go_simp; try with_reducible rfl)
          (try simp only [Act.put, List.setIfInBounds_toArray, List.set_cons_zero, List.set_cons_succ])
          refine PlanO.take (v := .string xu) (by kernel_rfl) ?y3 ?r3
          case y3 => (intro wz hz; have c0 := Ext.at_ hz x0; go_simp; try with_reducible rfl)
          (try simp only [Act.put, List.setIfInBounds_toArray, List.set_cons_zero, List.set_cons_succ])
          refine PlanO.take (v := ?v4) (by kernel_rfl) ?y4 ?r4
          case y4 => (intro wz hz; go_simp; try with_reducible rfl)
          (try simp only [Act.put, List.setIfInBounds_toArray, List.set_cons_zero, List.set_cons_succ])
          refine PlanO.take (v := ?v5) (by kernel_rfl) ?y5 ?r5
          case y5 => (intro wz hz; go_simp; try with_reducible rfl)
          (try simp only [Act.put, List.setIfInBounds_toArray, List.set_cons_zero, List.set_cons_succ])
          refine PlanO.done (NoPanic.normal ?_)
          go_wp2
          refine ⟨⟨acc ++ [⟨xu, xs, xk, xv⟩], g, xu, by simp; omega, by omega, rfl, rfl, by simp; omega, Lib.hid (HOW.out.below (Below.refl _ _).drew), HP2, Lib.hid ?_, Lib.hid ?_, Lib.hid HBE.out.drew⟩, by simp [intOf]; omega⟩
          · rw [show (acc ++ [(⟨xu, xs, xk, xv⟩ : Ent)]).length = acc.length + 1 by simp, prevU_snoc]
          · intro e he
            rcases List.mem_append.1 he with he | he
            · exact HFI.out e he
            · rw [List.mem_singleton.1 he]
              exact HFX.out
    · have k1 : decide ((p : Int) < (c.length : Int)) = false := by simp; omega
      have k1n : decide (p < c.length) = false := by simp; omega
      have HQ := Lib.hid (show ∀ es, IsBody c es → es = acc from fun es he => HP.out.end_ hpE he)
      clear hpE
      go_wp2
      go_ret2
      exact ⟨acc, _, true, rfl, HO.out, HFI.out, hacc, fun es he _ => ⟨rfl, HQ.out es he⟩, (fun h => by cases h), HB.out⟩
end Go.Proofs.YteeikmpfgbfeoaaGreat

/-
  Blocks: the bytes where entries stand, and those that tell the places of the whole ones, as the program parts them.
-/
namespace Go.Proofs.YteeikmpfgbfeoaaGreat
open Go.RowKit

set_option maxRecDepth 100000 in
set_option maxHeartbeats 400000 in
theorem split_short (v : Value) (b : List UInt8) (w : World) (hv : RdB w v b) (h : b.length < 2) :
    Calls Tryz.prog 92 #[v] w fun e w' => e = .returned (.tuple #[.slice none 0 0, .slice none 0 0, .bool false]) ∧ Below w.heap.size w w' := by
  have HF := Lib.hid (getFixed_out v b ((b.length : Int) - 2) 2 (by omega) (by omega) w hv)
  obtain ⟨va, vc, rfl, hc1, hc2⟩ := hv.form
  clear hv
  have l1 : IntKind.i64.wrap ((b.length : Int) - 2) = (b.length : Int) - 2 := IntWalk.i64_in _ (by omega)
  go_enter Tryz.func92, Tryz.ntmps92
  go_wp2_with (go_at_call 64; (refine HF.out.mono ?_); rintro e w1 ⟨rfl, rfl⟩)
  refine bodyPost_ret (v := .tuple #[.slice none 0 0, .slice none 0 0, .bool false]) (by simp [results, Tryz.results92, go_sem]) rfl ⟨rfl, Below.refl _ _⟩

theorem fixed_end {v : Value} {b : List UInt8} {w : World} (hv : RdB w v b) (h : 2 ≤ b.length) :
    Calls Tryz.prog 64 #[v, .int .i64 ((b.length : Int) - 2), .int .i64 2] w fun e w' => e = .returned (.tuple #[.int .i64 (valL (b.drop (b.length - 2)) : Int), .bool true]) ∧ w = w' := by
  obtain ⟨m, hm⟩ : ∃ m, b.length = m + 2 := ⟨b.length - 2, by omega⟩
  have hgf := getFixed_yes v b m 2 (by omega) (by omega) w hv
  have htk : (b.drop m).take 2 = b.drop (b.length - 2) := by rw [List.take_of_length_le (by rw [List.length_drop]; omega), hm, Nat.add_sub_cancel]
  rw [htk] at hgf
  rw [show (b.length : Int) - 2 = (m : Int) by omega]
  exact hgf
theorem end_less {b : List UInt8} (h : 2 ≤ b.length) : valL (b.drop (b.length - 2)) < 65536 := by
  have := valL_lt (b.drop (b.length - 2))
  rw [List.length_drop, show b.length - (b.length - 2) = 2 by omega] at this
  exact this

set_option maxRecDepth 100000 in
set_option maxHeartbeats 400000 in
theorem split_no (v : Value) (b : List UInt8) (w : World) (hv : RdB w v b) (h2 : 2 ≤ b.length) (h : b.length < 2 + 4 * valL (b.drop (b.length - 2))) :
    Calls Tryz.prog 92 #[v] w fun e w' => e = .returned (.tuple #[.slice none 0 0, .slice none 0 0, .bool false]) ∧ Below w.heap.size w w' := by
  have hgf := fixed_end hv h2
  have hvl := end_less h2
  generalize valL (b.drop (b.length - 2)) = n at *
  have HF := Lib.hid hgf
  obtain ⟨va, vc, rfl, hc1, hc2⟩ := hv.form
  unfold maxLen at hc2
  clear hv hgf
  have l1 : IntKind.i64.wrap ((b.length : Int) - 2) = (b.length : Int) - 2 := IntWalk.i64_in _ (by omega)
  have l2 : IntKind.i64.wrap (4 * (n : Int)) = 4 * (n : Int) := IntWalk.i64_in _ (by omega)
  obtain ⟨z, hz⟩ : ∃ z : Int, (b.length : Int) - 2 - 4 * (n : Int) = z := ⟨_, rfl⟩
  have l3 : IntKind.i64.wrap ((b.length : Int) - 2 - 4 * (n : Int)) = z := by rw [IntWalk.i64_in _ (by omega)]; exact hz
  have k1 : decide (z < 0) = true := by simp; omega
  clear hz
  go_enter Tryz.func92, Tryz.ntmps92
  go_wp2_with (go_at_call 64; (refine HF.out.mono ?_); rintro e w1 ⟨rfl, rfl⟩)
  refine bodyPost_ret (v := .tuple #[.slice none 0 0, .slice none 0 0, .bool false]) (by simp [results, Tryz.results92, go_sem]) rfl ⟨rfl, Below.refl _ _⟩

set_option maxRecDepth 100000 in
set_option maxHeartbeats 400000 in
theorem split_yes (v : Value) (b : List UInt8) (w : World) (hv : RdB w v b) (n E : Nat) (hn : valL (b.drop (b.length - 2)) = n) (hE : b.length = E + 4 * n + 2) :
    Calls Tryz.prog 92 #[v] w fun e w' => ∃ x y, e = .returned (.tuple #[x, y, .bool true]) ∧ RdB w' x (b.take E) ∧ RdB w' y ((b.drop E).take (4 * n)) ∧ Below w.heap.size w w' := by
  have hgf := fixed_end hv (by omega)
  have hvl := end_less (b := b) (by omega)
  rw [hn] at hgf hvl
  have HF := Lib.hid hgf
  have HV := Lib.hid hv
  obtain ⟨bb, off, vc, rfl, hc1, hc2, _, _⟩ := hv.cells (by intro h; subst h; simp at hE)
  unfold maxLen at hc2
  clear hv hgf hn
  have l1 : IntKind.i64.wrap ((b.length : Int) - 2) = (b.length : Int) - 2 := IntWalk.i64_in _ (by omega)
  have l2 : IntKind.i64.wrap (4 * (n : Int)) = 4 * (n : Int) := IntWalk.i64_in _ (by omega)
  have l3 : IntKind.i64.wrap ((b.length : Int) - 2 - 4 * (n : Int)) = (E : Int) := by rw [IntWalk.i64_in _ (by omega)]; omega
  have k1 : decide ((E : Int) < 0) = false := by simp
  have hEv : E < vc := by omega
  have HX : Hid (∀ wz, Below w.heap.size w wz → RdB wz (.slice (some ⟨bb, off, none⟩) E vc) (b.take E)) := Lib.hid fun wz hz => by
    have h := sub_rd (HV.out.below hz (Nat.le_refl _)) 0 E (by omega) (by omega)
    rw [List.drop_zero] at h
    unfold RdB
    rw [List.length_take, show min E b.length = E by omega]
    simpa [Addr.add] using h
  have HY : Hid (∀ wz, Below w.heap.size w wz → RdB wz (.slice (some ⟨bb, off + E, none⟩) (4 * n) (vc - E)) ((b.drop E).take (4 * n))) := Lib.hid fun wz hz => by
    have h := sub_rd (HV.out.below hz (Nat.le_refl _)) E (4 * n) (by omega) (by omega)
    have hadd : (⟨bb, off, none⟩ : Addr).add E = ⟨bb, off + E, none⟩ := by unfold Addr.add; split <;> simp_all
    rw [Option.map_some, hadd] at h
    unfold RdB
    rw [List.length_take, List.length_drop, show min (4 * n) (b.length - E) = 4 * n by omega]
    exact h
  have HE := Lib.hid hE
  have e1 : E + 4 * n ≤ b.length := by omega
  have e2 : E + 4 * n ≤ vc := by omega
  clear hE
  go_enter Tryz.func92, Tryz.ntmps92
  go_upto_region 5 with (go_at_call 64; (refine HF.out.mono ?_); rintro e w1 ⟨rfl, rfl⟩)
  refine wp_region_plan [(true, 0), (true, 1), (true, 2), (true, 3), (true, 4), (true, 5), (true, 6), (true, 7), (true, 8), (true, 9), (true, 10), (true, 11)] (by kernel_rfl) (by kernel_rfl) (by kernel_rfl) (by kernel_rfl) (by kernel_rfl) ?_
  simp only [planO, List.drop_succ_cons, List.drop_zero]
  refine PlanO.take (v := ?v0) (by kernel_rfl) ?y0 ?r0
  case y0 => (intro wz hz; go_simp; try with_reducible rfl)
  (try simp only [Act.put, List.setIfInBounds_toArray, List.set_cons_zero, List.set_cons_succ])
  refine PlanO.take (v := ?v1) (by kernel_rfl) ?y1 ?r1
  case y1 => (intro wz hz; go_simp; try with_reducible rfl)
  (try simp only [Act.put, List.setIfInBounds_toArray, List.set_cons_zero, List.set_cons_succ])
  refine PlanO.take (v := .slice (some ⟨bb, off, none⟩) E vc) (by kernel_rfl) ?y2 ?r2
  case y2 => (intro wz hz; go_simp; try (intro hkc; omega))
  (try simp only [Act.put, List.setIfInBounds_toArray, List.set_cons_zero, List.set_cons_succ])
  refine PlanO.take (v := ?v3) (by kernel_rfl) ?y3 ?r3
  case y3 => (intro wz hz; go_simp; try with_reducible rfl)
  (try simp only [Act.put, List.setIfInBounds_toArray, List.set_cons_zero, List.set_cons_succ])
  refine PlanO.take (v := ?v4) (by kernel_rfl) ?y4 ?r4
  case y4 => (intro wz hz; go_simp; try with_reducible rfl)
  (try simp only [Act.put, List.setIfInBounds_toArray, List.set_cons_zero, List.set_cons_succ])
  refine PlanO.take (v := ?v5) (by kernel_rfl) ?y5 ?r5
  case y5 => (intro wz hz; go_simp; try with_reducible rfl)
  (try simp only [Act.put, List.setIfInBounds_toArray, List.set_cons_zero, List.set_cons_succ])
  refine PlanO.take (v := ?v6) (by kernel_rfl) ?y6 ?r6
  case y6 => (intro wz hz; go_simp; try with_reducible rfl)
  (try simp only [Act.put, List.setIfInBounds_toArray, List.set_cons_zero, List.set_cons_succ])
  refine PlanO.take (v := .int .i64 ((b.length : Int) - 2)) (by kernel_rfl) ?y7 ?r7
  case y7 => (intro wz hz; go_simp; try with_reducible rfl)
  (try simp only [Act.put, List.setIfInBounds_toArray, List.set_cons_zero, List.set_cons_succ])
  refine PlanO.take (v := .slice (some ⟨bb, off + E, none⟩) (4 * n) (vc - E)) (by kernel_rfl) ?y8 ?r8
  case y8 => (intro wz hz; go_simp; have hEo := HE.out; rw [if_pos (by omega), if_pos (by omega), if_neg (show ¬ vc = E by omega), show ((b.length : Int) - 2).toNat - E = 4 * n by omega])
  (try simp only [Act.put, List.setIfInBounds_toArray, List.set_cons_zero, List.set_cons_succ])
  refine PlanO.take (v := ?v9) (by kernel_rfl) ?y9 ?r9
  case y9 => (intro wz hz; go_simp; try with_reducible rfl)
  (try simp only [Act.put, List.setIfInBounds_toArray, List.set_cons_zero, List.set_cons_succ])
  refine PlanO.take (v := ?v10) (by kernel_rfl) ?y10 ?r10
  case y10 => (intro wz hz; go_simp; try with_reducible rfl)
  (try simp only [Act.put, List.setIfInBounds_toArray, List.set_cons_zero, List.set_cons_succ])
  refine PlanO.take (v := ?v11) (by kernel_rfl) ?y11 ?r11
  case y11 => (intro wz hz; go_simp; try with_reducible rfl)
  (try simp only [Act.put, List.setIfInBounds_toArray, List.set_cons_zero, List.set_cons_succ])
  refine PlanO.done (NoPanic.normal ?_)
  go_wp2
  refine bodyPost_ret (v := .tuple #[.slice (some ⟨bb, off, none⟩) E vc, .slice (some ⟨bb, off + E, none⟩) (4 * n) (vc - E), .bool true]) (by simp [results, Tryz.results92, go_sem]) rfl ?_
  exact ⟨_, _, rfl, HX.out _ (Below.refl _ _).drew, HY.out _ (Below.refl _ _).drew, (Below.refl _ _).drew⟩
end Go.Proofs.YteeikmpfgbfeoaaGreat

/-
  Blocks: the entries of a block, as the program tells them.
-/
namespace Go.Proofs.YteeikmpfgbfeoaaGreat
open Go.RowKit

set_option maxRecDepth 100000 in
theorem equal_any12 (w : World) (va vb : Option Addr) (ca cb : Nat) (l b : List UInt8) (hl : RdB w (.slice va l.length ca) l) (hb : RdB w (.slice vb b.length cb) b) :
    Calls Tryz.prog 67 #[.slice va l.length ca, .slice vb b.length cb] w fun e w' => e = .returned (.bool (decide (l = b))) ∧ Below w.heap.size w w' := by
  have c1 := rdB_convert (P := Tryz.prog) hl 24 5 9 Tryz.underlying24 Tryz.underlying5 Tryz.underlying9
  have c2 := rdB_convert (P := Tryz.prog) hb 24 5 9 Tryz.underlying24 Tryz.underlying5 Tryz.underlying9
  clear hl hb
  go_enter Tryz.func67, Tryz.ntmps67
  go_wp2
  go_ret
  refine ⟨?_, Below.refl _ _⟩
  by_cases hlb : l = b <;> simp [hlb]

set_option maxRecDepth 100000 in
set_option maxHeartbeats 400000 in
theorem get_any0 (v : Value) (b : List UInt8) (w : World) (hv : RdB w v b) (hl : b.length ≤ 1000000) : Calls Tryz.prog 89 #[v] w (RetGet w b) := by
  by_cases g1 : b.length < 2
  · have HNO := Lib.hid (show getB b = none from getB_none fun es h => by have := h.count; omega)
    have HS := Lib.hid (split_short v b w hv g1)
    clear hv
    go_enter Tryz.func89, Tryz.ntmps89
    go_wp2_with (go_at_call 92; (refine HS.out.mono ?_); rintro e w1 ⟨rfl, hb1⟩)
    go_ret2
    exact RetGet.no HNO.out hb1
  · by_cases g2 : b.length < 2 + 4 * valL (b.drop (b.length - 2))
    · have HNO := Lib.hid (show getB b = none from getB_none fun es h => by have := h.count; omega)
      have HS := Lib.hid (split_no v b w hv (by omega) g2)
      clear hv g2
      go_enter Tryz.func89, Tryz.ntmps89
      go_wp2_with (go_at_call 92; (refine HS.out.mono ?_); rintro e w1 ⟨rfl, hb1⟩)
      go_ret2
      exact RetGet.no HNO.out hb1
    · obtain ⟨n, hn⟩ : ∃ n, valL (b.drop (b.length - 2)) = n := ⟨_, rfl⟩
      rw [hn] at g2
      have HS := Lib.hid (split_yes v b w hv n (b.length - 2 - 4 * n) hn (by omega))
      have HBO : Hid (∀ es, IsBlk b es → IsBody (b.take (b.length - 2 - 4 * n)) es ∧ es.length ≤ 64 ∧ putErr es = 0 ∧ blockL es = b) := Lib.hid fun es h => by
        have h1 := h.body
        rw [hn] at h1
        exact ⟨h1, (putErr_ok h.1).2.2, h.1, h.2⟩
      have hcl : (b.take (b.length - 2 - 4 * n)).length ≤ 1000000 := by rw [List.length_take]; omega
      have HV := Lib.hid hv
      obtain ⟨va, vc, rfl, _, _⟩ := hv.form
      clear hv hn g2 g1
      generalize b.take (b.length - 2 - 4 * n) = c at *
      go_enter Tryz.func89, Tryz.ntmps89
      go_upto_region 6 with (first | (go_at_call 92; (refine HS.out.mono ?_); rintro e w1 ⟨x, y, rfl, hx, _, hb1⟩; have HX := Lib.hid hx; have HB1 := Lib.hid hb1; clear hx hb1) | (go_at_call 101; (refine (readAll_any x c w1 HX.out hcl).mono ?_); rintro e w2 ⟨acc, xl, ok, rfl, ho2, hf2, hn2, hq2, hz2, hb2⟩; have HO2 := Lib.hid ho2; have HF2 := Lib.hid hf2; have HQ2 := Lib.hid hq2; have HZ2 := Lib.hid hz2; have HB2 := Lib.hid hb2; clear ho2 hf2 hq2 hz2 hb2) | (go_at_call 20; (refine (put_any12 xl acc w2 (HO2.out.read HF2.out)).mono ?_); rintro e w3 ⟨xp, rfl, ho3, hb3⟩; have HO3 := Lib.hid ho3; have HB3 := Lib.hid hb3; clear ho3 hb3))
      have HBW : Hid (Below w.heap.size w w3) := Lib.hid ((HB1.out.trans (HB2.out.mono HB1.out.size)).trans (HB3.out.mono (Nat.le_trans HB1.out.size HB2.out.size)))
      have HOW : Hid (OwnE w3 w.heap.size xl acc) := Lib.hid (own_monoE (HO2.out.below HB3.out) HB1.out.size)
      cases ok with
      | false =>
        have HR := Lib.hid (show getB b = none from getB_none fun es he => by
          obtain ⟨h1, h2, _⟩ := HBO.out es he
          have := (HQ2.out es h1 h2).1
          cases this)
        go_wp2
        go_ret2
        exact RetGet.no HR.out HBW.out
      | true =>
        have HQ : Hid (∀ es, IsBlk b es → es = acc) := Lib.hid fun es he => (HQ2.out es (HBO.out es he).1 (HBO.out es he).2.1).2
        by_cases he0 : putErr acc = 0
        · have hoe : OwnB w3 w2.heap.size 5 xp (blockL acc) := by
            have h := HO3.out
            rw [if_pos he0] at h
            exact h
          have hpe : ((putErr acc : Int) != 0) = false := by rw [he0]; rfl
          obtain ⟨pa, pc, hpa, _, _⟩ := hoe.read.form
          subst hpa
          have HEQ := Lib.hid (fun wz (hz : Below w3.heap.size w3 wz) => equal_any12 wz pa va pc vc (blockL acc) b (hoe.read.below hz (Nat.le_refl _)) ((HV.out.below HBW.out (Nat.le_refl _)).below hz (Nat.le_refl _)))
          by_cases hbq : blockL acc = b
          · have HIS := Lib.hid (show IsBlk b acc from ⟨he0, hbq⟩)
            have hdt : decide (blockL acc = b) = true := by simpa using hbq
            rw [hdt] at HEQ
            clear hdt hbq he0 hoe HO3
            generalize blockL acc = P at *
            generalize putErr acc = er at *
            go_wp2_with (go_at_call 67; (refine (HEQ.out _ (Below.refl _ _)).mono ?_); rintro e w4 ⟨rfl, hb4⟩)
            go_ret2
            exact RetGet.yes HIS.out (HOW.out.below hb4) (HBW.out.trans (hb4.mono HBW.out.size))
          · have HR := Lib.hid (show getB b = none from getB_none fun es he => hbq (by rw [← HQ.out es he]; exact he.2))
            have hdt : decide (blockL acc = b) = false := by simpa using hbq
            rw [hdt] at HEQ
            clear hdt hbq he0 hoe HO3
            generalize blockL acc = P at *
            generalize putErr acc = er at *
            go_wp2_with (go_at_call 67; (refine (HEQ.out _ (Below.refl _ _)).mono ?_); rintro e w4 ⟨rfl, hb4⟩)
            go_ret2
            exact RetGet.no HR.out (HBW.out.trans (hb4.mono HBW.out.size))
        · have HR := Lib.hid (show getB b = none from getB_none fun es he => he0 (by rw [← HQ.out es he]; exact he.1))
          have hpe : ((putErr acc : Int) != 0) = true := by simpa using he0
          clear he0 HO3
          generalize putErr acc = er at *
          go_wp2
          go_ret2
          exact RetGet.no HR.out HBW.out
theorem get_any12 : GetC := fun v b w hv hl => get_any0 v b w hv hl
end Go.Proofs.YteeikmpfgbfeoaaGreat

/-
  Tables: add: one block more of a table is read.
-/
namespace Go.Proofs.YteeikmpfgbfeoaaGreat
open Go.RowKit

/-- Such a block may be the next one. -/
def NextOk (ps : List (List Ent)) (x : List Ent) : Prop := (ps ≠ [] → x.length ≤ firstN ps) ∧ ps.flatten.length = firstN ps * ps.length ∧ ps.flatten.length + x.length ≤ 256
theorem okNext_iff {ps : List (List Ent)} {x : List Ent} {per : Nat} (hp : per = if ps = [] then x.length else firstN ps) : okNext x.length per ps.flatten.length (rowsQ ps).length = true ↔ NextOk ps x := by
  unfold okNext NextOk
  rw [rowsQ_len, hp]
  simp only [Bool.and_eq_true, decide_eq_true_eq, beq_iff_eq]
  by_cases h : ps = []
  · subst h
    simp [firstN]
  · simp only [h, if_false]
    constructor
    · rintro ⟨⟨h1, h2⟩, h3⟩
      exact ⟨fun _ => h1, h2, h3⟩
    · rintro ⟨h1, h2, h3⟩
      exact ⟨⟨h1 (fun e => h (by simpa using e)), h2⟩, h3⟩
theorem firstN_more (ps : List (List Ent)) (x : List Ent) : firstN (ps ++ [x]) = if ps = [] then x.length else firstN ps := by
  unfold firstN
  cases ps with
  | nil => rfl
  | cons p r => simp

/-- What add tells, and what it leaves. -/
def AddRet (W0 : World) (B q : Nat) (vf : Value) (b : List UInt8) (ps : List (List Ent)) (e : Ending) (w' : World) : Prop :=
  Below B W0 w' ∧
   ((∃ x ve vr, frOk b (tabQ ps).length = true ∧ getB (frP b (tabQ ps).length) = some x ∧ NextOk ps x ∧ e = .returned (.tuple #[.int .i64 ((tabQ (ps ++ [x])).length : Int), .bool true]) ∧ OB W0 B q w' (firstN (ps ++ [x])) ve vr vf (ps ++ [x]).flatten (rowsQ (ps ++ [x]))) ∨
    ((frOk b (tabQ ps).length = false ∨ getB (frP b (tabQ ps).length) = none ∨ ∃ x, getB (frP b (tabQ ps).length) = some x ∧ ¬ NextOk ps x) ∧ e = .returned (.tuple #[.int .i64 0, .bool false])))

theorem getB_nil : getB [] = none := getB_none fun es h => by
  have := congrArg List.length h.2
  rw [blockL_len] at this
  simp at this

set_option maxRecDepth 100000 in
set_option maxHeartbeats 600000 in
theorem add_any {W0 w : World} {B q : Nat} {ve vr vf v : Value} {b : List UInt8} {ps : List (List Ent)} (h0 : OB W0 B q w (firstN ps) ve vr vf ps.flatten (rowsQ ps)) (hB : W0.heap.size ≤ B) (hv : RdB W0 v b) (hl : b.length ≤ 1000000) (hs : Seen b ps) :
    Calls Tryz.prog 65 #[.pointer (some ⟨q, 0, none⟩), v, .int .i64 ((tabQ ps).length : Int)] w (AddRet W0 B q vf b ps) := by
  have HV : Hid (∀ wz, Below B W0 wz → RdB wz v b) := Lib.hid fun wz hz => hv.below hz hB
  have HS := Lib.hid hs
  obtain ⟨FL, hFL⟩ : ∃ FL, ps.flatten = FL := ⟨_, rfl⟩
  have HNI : Hid (∀ (x : List Ent) per, per = (if ps = [] then x.length else firstN ps) → (okNext x.length per FL.length (rowsQ ps).length = true ↔ NextOk ps x)) := Lib.hid fun x per hp => by rw [← hFL]; exact okNext_iff hp
  have HFX : Hid (∀ x : List Ent, (ps ++ [x]).flatten = FL ++ x) := Lib.hid fun x => by rw [List.flatten_append, List.flatten_singleton, hFL]
  have HPL := Lib.hid hs.len
  have HFE : Hid (FL.length ≤ 256) := Lib.hid (by rw [← hFL]; exact hs.few)
  rw [hFL] at h0
  have HTL : Hid ((tabQ ps).length ≤ 25602048) := Lib.hid (by have := tabQ_len hs.ok; have := hs.len; omega)
  have HRL : Hid ((rowsQ ps).length ≤ 256) := Lib.hid (by rw [rowsQ_len]; exact hs.len)
  have hg : ∀ wz, Below B W0 wz → Calls Tryz.prog 66 #[v, .int .i64 ((tabQ ps).length : Int)] wz (GetFr wz b ((tabQ ps).length : Int)) := fun wz hz => fget_any wz v b _ (HV.out wz hz) (by omega) (by have := HTL.out; omega)
  clear hv hs hFL
  cases hf : frOk b (tabQ ps).length with
  | false =>
    have HG : Hid (∀ wz, Below B W0 wz → Calls Tryz.prog 66 #[v, .int .i64 ((tabQ ps).length : Int)] wz fun e w' => e = .returned (.tuple #[.slice none 0 0, .int .i64 0, .bool false]) ∧ Below wz.heap.size wz w') := Lib.hid fun wz hz => by
      refine (hg wz hz).mono ?_
      rintro e w' (⟨_, rfl, hb⟩ | ⟨p, hp, ho, _⟩)
      · exact ⟨rfl, hb⟩
      · obtain rfl : p = (tabQ ps).length := by omega
        rw [hf] at ho
        cases ho
    have HBG : Hid (∀ wz, Calls Tryz.prog 89 #[.slice none 0 0] wz fun e w' => ∃ x, e = .returned (.tuple #[x, .bool false]) ∧ Below wz.heap.size wz w') := Lib.hid fun wz => by
      refine (get_any0 (.slice none 0 0) [] wz (rdB_empty wz none 0 (Nat.zero_le _) (fun _ => rfl)) (by simp)).mono ?_
      rintro e w' ⟨x, rfl, _, hb⟩
      exact ⟨x, by rw [getB_nil]; rfl, hb⟩
    have HFF := Lib.hid hf
    have HO0 := Lib.hid h0
    clear hg hf h0
    go_enter Tryz.func65, Tryz.ntmps65
    go_wp2_with (first | (go_at_call 66; (refine (HG.out _ HO0.out.be).mono ?_); rintro e u1 ⟨rfl, hb1⟩; have HOB1 := Lib.hid (HO0.out.call hb1); clear hb1) | (go_at_call 89; (refine (HBG.out _).mono ?_); rintro e u2 ⟨x2, rfl, hb2⟩; have HOB2 := Lib.hid (HOB1.out.call hb2); clear hb2))
    go_ret2
    exact ⟨HOB2.out.be, .inr ⟨.inl HFF.out, rfl⟩⟩
  | true =>
    have hle := frOk_le hf
    have hfl := frP_length hle
    have HG : Hid (∀ wz, Below B W0 wz → Calls Tryz.prog 66 #[v, .int .i64 ((tabQ ps).length : Int)] wz fun e w' => ∃ u, e = .returned (.tuple #[u, .int .i64 (((tabQ ps).length + 8 + frN b (tabQ ps).length : Nat) : Int), .bool true]) ∧ OwnB w' wz.heap.size 5 u (frP b (tabQ ps).length) ∧ Below wz.heap.size wz w') := Lib.hid fun wz hz => by
      refine (hg wz hz).mono ?_
      rintro e w' (⟨hno, _, _⟩ | ⟨p, hp, _, u, rfl, ho, hb⟩)
      · have := hno _ rfl
        rw [hf] at this
        cases this
      · obtain rfl : p = (tabQ ps).length := by omega
        exact ⟨u, rfl, ho, hb⟩
    have HBG0 : ∀ y wz, RdB wz y (frP b (tabQ ps).length) → Calls Tryz.prog 89 #[y] wz (RetGet wz (frP b (tabQ ps).length)) := fun y wz hy => get_any0 y _ wz hy (by omega)
    cases hx : getB (frP b (tabQ ps).length) with
    | none =>
      have HBG : Hid (∀ y wz, RdB wz y (frP b (tabQ ps).length) → Calls Tryz.prog 89 #[y] wz fun e w' => ∃ x, e = .returned (.tuple #[x, .bool false]) ∧ Below wz.heap.size wz w') := Lib.hid fun y wz hy => by
        refine (HBG0 y wz hy).mono ?_
        rintro e w' ⟨x, rfl, _, hb⟩
        exact ⟨x, by rw [hx]; rfl, hb⟩
      have HGB := Lib.hid hx
      have HO0 := Lib.hid h0
      clear hg hf h0 hx HBG0 hle hfl
      go_enter Tryz.func65, Tryz.ntmps65
      go_wp2_with (first | (go_at_call 66; (refine (HG.out _ HO0.out.be).mono ?_); rintro e u1 ⟨y1, rfl, ho1, hb1⟩; have HY1 := Lib.hid ho1.read; have HOB1 := Lib.hid (HO0.out.call hb1); clear ho1 hb1) | (go_at_call 89; (refine (HBG.out _ _ HY1.out).mono ?_); rintro e u2 ⟨x2, rfl, hb2⟩; have HOB2 := Lib.hid (HOB1.out.call hb2); clear hb2))
      go_ret2
      exact ⟨HOB2.out.be, .inr ⟨.inr (.inl HGB.out), rfl⟩⟩
    | some x =>
      obtain ⟨hxe, hxb⟩ := getB_is hx
      obtain ⟨k1, k2, k3⟩ := putErr_ok hxe
      have HBG : Hid (∀ y wz, RdB wz y (frP b (tabQ ps).length) → Calls Tryz.prog 89 #[y] wz fun e w' => ∃ xv, e = .returned (.tuple #[xv, .bool true]) ∧ OwnE w' wz.heap.size xv x ∧ Below wz.heap.size wz w') := Lib.hid fun y wz hy => by
        refine (HBG0 y wz hy).mono ?_
        rintro e w' ⟨x, rfl, ho, hb⟩
        rw [hx] at ho ⊢
        exact ⟨_, rfl, ho, hb⟩
      have HFO := Lib.hid hf
      have HGB := Lib.hid hx
      have HXL := Lib.hid k3
      have HXN := Lib.hid k2
      have HXP := Lib.hid (List.length_pos_iff.2 k2)
      have HXF : Hid (∀ e ∈ x, e.fits) := Lib.hid fun e he => Ent.may_fits (rising_all k1 e he)
      have hfr : (tabQ ps).length + 8 + frN b (tabQ ps).length = (tabQ ps).length + (frRaw (blockL x)).length := by
        rw [frRaw_length, hxb, hfl]
        omega
      rw [hfr] at HG
      have HNX : Hid ((tabQ (ps ++ [x])).length = (tabQ ps).length + (frRaw (blockL x)).length) := Lib.hid (by rw [tabQ_snoc, List.length_append])
      have HBL := Lib.hid (blk_len hxe).2
      obtain ⟨ea, ec, hve, _, _⟩ := h0.ents.form
      subst hve
      obtain ⟨ra, rc, hvr, _, _⟩ := h0.rows.form
      subst hvr
      have e1 : IntKind.i64.wrap ((((tabQ ps).length + (frRaw (blockL x)).length : Nat) : Int) - ((tabQ ps).length : Int)) = ((frRaw (blockL x)).length : Int) := by rw [IntWalk.i64_in _ (by have := HTL.out; have := HBL.out; omega)]; omega
      have e2 : ((tabQ ps).length : Int) + ((frRaw (blockL x)).length : Int) - ((tabQ ps).length : Int) = ((frRaw (blockL x)).length : Int) := by omega
      have e3 : IntKind.i64.wrap ((frRaw (blockL x)).length : Int) = ((frRaw (blockL x)).length : Int) := IntWalk.i64_in _ (by have := HBL.out; omega)
      clear hg hf hx HBG0 hle hfl hxe hxb k1 k2 k3 hfr
      have HO0 := Lib.hid h0
      clear h0
      by_cases hps : ps = []
      · have HPE : Hid (x.length = if ps = [] then x.length else firstN ps) := Lib.hid (by rw [if_pos hps])
        have HPB : Hid (x.length ≤ 64) := HXL
        have hz : (rowsQ ps).length = 0 := by rw [rowsQ_len, hps]; rfl
        have d0 : (((rowsQ ps).length : Int) == 0) = true := by rw [hz]; rfl
        have HPS := Lib.hid hps
        clear hps hz
        have HTK : Hid (∀ wz, OB W0 B q wz (x.length) (.slice ea FL.length ec) (.slice ra (rowsQ ps).length rc) vf FL (rowsQ ps) → Calls Tryz.prog 90 #[.pointer (some ⟨q, 0, none⟩), .int .i64 (x.length : Int)] wz fun e w' => e = .returned (.bool (okNext x.length (x.length) FL.length (rowsQ ps).length)) ∧ Below wz.heap.size wz w') := Lib.hid fun wz h => takes_any h.box (by have := HXL.out; omega) (by have := HPB.out; omega) (by have := HFE.out; omega) (by have := HRL.out; omega)
        cases hk : okNext x.length (x.length) FL.length (rowsQ ps).length with
        | false =>
          have HNK : Hid (¬ NextOk ps x) := Lib.hid (fun h => by have := (HNI.out x _ HPE.out).2 h; rw [hk] at this; cases this)
          rw [hk] at HTK
          clear hk
          go_enter Tryz.func65, Tryz.ntmps65
          go_wp2_with (first | (go_at_call 66; (refine (HG.out _ HO0.out.be).mono ?_); rintro e u1 ⟨y1, rfl, ho1, hb1⟩; have HY1 := Lib.hid ho1.read; have HOB1 := Lib.hid (HO0.out.call hb1); clear ho1 hb1) | (go_at_call 89; (refine (HBG.out _ _ HY1.out).mono ?_); rintro e u2 ⟨xv, rfl, ho2, hb2⟩; (obtain ⟨xa, xc, hxv, _, _⟩ := ho2.form); subst hxv; have hOB2 := HOB1.out.call hb2; have z0 := hOB2.cell 0; have z1 := hOB2.cell 1; have z2 := hOB2.cell 2; have t0 := hOB2.free 0; simp only [List.getElem?_toArray, List.getElem?_cons_zero, List.getElem?_cons_succ] at z0 z1 z2; have HOB2 := Lib.hid hOB2; have HX2 := Lib.hid ho2; have HDQ : Hid (q < u1.heap.size) := Lib.hid (blk_lt HOB1.out.box); have HDE : Hid (∀ j, (Value.slice ea FL.length ec).ownBlock = some j → j < u1.heap.size) := Lib.hid (own_lt HOB1.out.ents); clear ho2 hb2 hOB2) | (go_at_call 90; (refine (HTK.out _ (OB.store (per' := x.length) HOB2.out (by rfl))).mono ?_); rintro e u3 ⟨rfl, hb3⟩; have hOB3 := (OB.store (i := 0) (u := .int .i64 (x.length : Int)) (per' := x.length) HOB2.out (by rfl)).call hb3; have HX3 := Lib.hid (OwnE.below (row_set (i := 0) (u := .int .i64 (x.length : Int)) HX2.out HDQ.out) hb3); have z1 := hOB3.cell 1; have z2 := hOB3.cell 2; have t1 := hOB3.free 1; simp only [List.getElem?_toArray, List.getElem?_cons_zero, List.getElem?_cons_succ] at z1 z2; have HOB3 := Lib.hid hOB3; clear hb3 hOB3))
          go_ret2
          exact ⟨HOB3.out.be, .inr ⟨.inr (.inr ⟨x, HGB.out, HNK.out⟩), rfl⟩⟩
        | true =>
          have HOKX : Hid (NextOk ps x) := Lib.hid ((HNI.out x _ HPE.out).1 hk)
          rw [hk] at HTK
          clear hk
          have HRO : Hid (∀ (xv : Value) (wz : World) (D : Nat), OwnE wz D xv x → Calls Tryz.prog 22 #[xv, .int .i64 ((tabQ ps).length : Int), .int .i64 ((frRaw (blockL x)).length : Int)] wz fun e w' => e = .returned (rwV (rowP x (tabQ ps).length)) ∧ Below wz.heap.size wz w') := Lib.hid fun xv wz D h => rowOf_any xv x _ _ wz (h.read HXF.out) HXN.out
          go_enter Tryz.func65, Tryz.ntmps65
          go_upto_region 10 with (first | (go_at_call 66; (refine (HG.out _ HO0.out.be).mono ?_); rintro e u1 ⟨y1, rfl, ho1, hb1⟩; have HY1 := Lib.hid ho1.read; have HOB1 := Lib.hid (HO0.out.call hb1); clear ho1 hb1) | (go_at_call 89; (refine (HBG.out _ _ HY1.out).mono ?_); rintro e u2 ⟨xv, rfl, ho2, hb2⟩; (obtain ⟨xa, xc, hxv, _, _⟩ := ho2.form); subst hxv; have hOB2 := HOB1.out.call hb2; have z0 := hOB2.cell 0; have z1 := hOB2.cell 1; have z2 := hOB2.cell 2; have t0 := hOB2.free 0; simp only [List.getElem?_toArray, List.getElem?_cons_zero, List.getElem?_cons_succ] at z0 z1 z2; have HOB2 := Lib.hid hOB2; have HX2 := Lib.hid ho2; have HDQ : Hid (q < u1.heap.size) := Lib.hid (blk_lt HOB1.out.box); have HDE : Hid (∀ j, (Value.slice ea FL.length ec).ownBlock = some j → j < u1.heap.size) := Lib.hid (own_lt HOB1.out.ents); clear ho2 hb2 hOB2) | (go_at_call 90; (refine (HTK.out _ (OB.store (per' := x.length) HOB2.out (by rfl))).mono ?_); rintro e u3 ⟨rfl, hb3⟩; have hOB3 := (OB.store (i := 0) (u := .int .i64 (x.length : Int)) (per' := x.length) HOB2.out (by rfl)).call hb3; have HX3 := Lib.hid (OwnE.below (row_set (i := 0) (u := .int .i64 (x.length : Int)) HX2.out HDQ.out) hb3); have z1 := hOB3.cell 1; have z2 := hOB3.cell 2; have t1 := hOB3.free 1; simp only [List.getElem?_toArray, List.getElem?_cons_zero, List.getElem?_cons_succ] at z1 z2; have HOB3 := Lib.hid hOB3; clear hb3 hOB3) | (at_builtin; refine wpList_plain rfl fun K' hK' => ?_; refine wp_append_at (.tmp 49) (.tmp 50) 22 rfl 39 4 48 (.agg #[.string ⟨#[]⟩, .int .i64 0, .int .i64 0, .string ⟨#[]⟩]) Tryz.underlying22 info_ent rfl (by decide) _ _ _ _ _ _ rfl rfl HOB3.out.ents0 (rd_of_own HX3.out) (entFlat_one _) (by have h1 := HFE.out; have h2 := HXL.out; omega) (by have h1 := HFE.out; have h2 := HXL.out; unfold maxLen; omega) (fun v5 w5 hown5 hmv5 => hK' _ _ ?_); obtain ⟨hOB5, c5, f5⟩ := HOB3.out.putE hown5 hmv5; have HXX := Lib.hid (row_past (i := 1) (u := v5) HX3.out hmv5 HDE.out HDQ.out); (obtain ⟨ea5, ec5, hea5, _, _⟩ := hOB5.ents.form); (rw [List.length_append] at hea5); subst hea5; have HOB5 := Lib.hid hOB5; clear hOB5 hown5 hmv5))
          have HOBr := Lib.hid (HOB5.out.call (Below.refl _ _).drew)
          have HXr := Lib.hid (OwnE.below HXX.out (Below.refl _ _).drew)
          refine wp_region_two (fun wz => wz.cell? ⟨q, 2, none⟩ = some (.slice ra (rowsQ ps).length rc)) (fun _ => True) [(0, 0), (0, 1), (0, 2), (0, 3), (0, 4), (0, 5), (0, 6), (0, 7), (0, 8), (0, 9), (2, 10), (2, 11), (2, 12), (0, 13), (0, 14), (3, 15)] [15] (by kernel_rfl) (by kernel_rfl) (by kernel_rfl) (by kernel_rfl) (by kernel_rfl) (HOBr.out.cell 2) trivial ?_
          simp only [planT, List.drop_succ_cons, List.drop_zero]
          refine PlanT.take0 (v := ?vA0) (by kernel_rfl) ?yA0 ?rA0
          case yA0 => (intro wz hz; have z2 := hz; go_simp; try with_reducible rfl)
          (try simp only [Act.put, List.setIfInBounds_toArray, List.set_cons_zero, List.set_cons_succ])
          refine PlanT.take0 (v := ?vA1) (by kernel_rfl) ?yA1 ?rA1
          case yA1 => (intro wz hz; have z2 := hz; go_simp; try with_reducible rfl)
          (try simp only [Act.put, List.setIfInBounds_toArray, List.set_cons_zero, List.set_cons_succ])
          refine PlanT.take0 (v := ?vA2) (by kernel_rfl) ?yA2 ?rA2
          case yA2 => (intro wz hz; have z2 := hz; go_simp; try with_reducible rfl)
          (try simp only [Act.put, List.setIfInBounds_toArray, List.set_cons_zero, List.set_cons_succ])
          refine PlanT.take0 (v := ?vA3) (by kernel_rfl) ?yA3 ?rA3
          case yA3 => (intro wz hz; have z2 := hz; go_simp; try with_reducible rfl)
          (try simp only [Act.put, List.setIfInBounds_toArray, List.set_cons_zero, List.set_cons_succ])
          refine PlanT.take0 (v := ?vA4) (by kernel_rfl) ?yA4 ?rA4
          case yA4 => (intro wz hz; have z2 := hz; go_simp; try with_reducible rfl)
          (try simp only [Act.put, List.setIfInBounds_toArray, List.set_cons_zero, List.set_cons_succ])
          refine PlanT.take0 (v := ?vA5) (by kernel_rfl) ?yA5 ?rA5
          case yA5 => (intro wz hz; have z2 := hz; go_simp; try with_reducible rfl)
          (try simp only [Act.put, List.setIfInBounds_toArray, List.set_cons_zero, List.set_cons_succ])
          refine PlanT.take0 (v := ?vA6) (by kernel_rfl) ?yA6 ?rA6
          case yA6 => (intro wz hz; have z2 := hz; go_simp; try with_reducible rfl)
          (try simp only [Act.put, List.setIfInBounds_toArray, List.set_cons_zero, List.set_cons_succ])
          refine PlanT.take0 (v := ?vA7) (by kernel_rfl) ?yA7 ?rA7
          case yA7 => (intro wz hz; have z2 := hz; go_simp; try with_reducible rfl)
          (try simp only [Act.put, List.setIfInBounds_toArray, List.set_cons_zero, List.set_cons_succ])
          refine PlanT.take0 (v := ?vA8) (by kernel_rfl) ?yA8 ?rA8
          case yA8 => (intro wz hz; have z2 := hz; go_simp; try with_reducible rfl)
          (try simp only [Act.put, List.setIfInBounds_toArray, List.set_cons_zero, List.set_cons_succ])
          refine PlanT.take0 (v := .int .i64 ((frRaw (blockL x)).length : Int)) (by kernel_rfl) ?yA9 ?rA9
          case yA9 => (intro wz hz; have z2 := hz; go_simp; try with_reducible rfl)
          (try simp only [Act.put, List.setIfInBounds_toArray, List.set_cons_zero, List.set_cons_succ])
          refine PlanT.exec2 (fun K hK => ⟨by kernel_rfl, ?_⟩)
          go_simp
          refine (HRO.out _ _ _ HXr.out).mono ?_
          rintro e u4 ⟨rfl, hb4⟩
          have HOB4 := Lib.hid (HOBr.out.call hb4)
          clear hb4
          refine hK.out _ _ (HOB4.out.cell 2) trivial ?_
          clear hK K
          (try simp only [Act.put, List.setIfInBounds_toArray, List.set_cons_zero, List.set_cons_succ])
          refine PlanT.exec2 (fun K hK => ⟨by kernel_rfl, ?_⟩)
          go_simp
          have hba : Below u4.heap.size u4 (u4.alloc (.cells #[.string (lastE x).u, .int .i64 (lastE x).s, .int .i64 (lastE x).k, .int .i64 ((tabQ ps).length : Int), .int .i64 ((frRaw (blockL x)).length : Int)] 60)) := (Below.refl _ _).alloc (Nat.le_refl _) _
          have HOB5 := Lib.hid (HOB4.out.call hba)
          clear hba
          refine hK.out _ _ (HOB5.out.cell 2) trivial ?_
          clear hK K
          (try simp only [Act.put, List.setIfInBounds_toArray, List.set_cons_zero, List.set_cons_succ])
          refine PlanT.exec2 (fun K hK => ⟨by kernel_rfl, ?_⟩)
          refine wp_append_at (.tmp 58) (.tmp 65) 53 rfl 60 5 48 (.agg #[.string ⟨#[]⟩, .int .i64 0, .int .i64 0, .int .i64 0, .int .i64 0]) Tryz.underlying53 info_rw rfl (by decide) _ _ _ 1 _ ([rowP x (tabQ ps).length].flatMap Rw.cells) rfl rfl HOB5.out.rows0 (one_rw u4 (rowP x (tabQ ps).length)) (rwFlat_one _) (by have := HRL.out; omega) (by have := HRL.out; unfold maxLen; omega) ?kA
          intro v6 w6 hown6 hmv6
          obtain ⟨hOB6, c6, f6⟩ := HOB5.out.putR (m := [rowP x (tabQ ps).length]) hown6 hmv6
          obtain ⟨ra6, rc6, hra6, _, _⟩ := hOB6.rows.form
          rw [List.length_append, List.length_singleton] at hra6
          subst hra6
          have HOB6 := Lib.hid hOB6
          clear hOB6 hown6 hmv6
          refine hK.out _ _ c6 trivial ?_
          clear hK K
          (try simp only [Act.put, List.setIfInBounds_toArray, List.set_cons_zero, List.set_cons_succ])
          refine PlanT.take0 (v := ?vA13) (by kernel_rfl) ?yA13 ?rA13
          case yA13 => (intro wz hz; go_simp; try with_reducible rfl)
          (try simp only [Act.put, List.setIfInBounds_toArray, List.set_cons_zero, List.set_cons_succ])
          refine PlanT.take0 (v := ?vA14) (by kernel_rfl) ?yA14 ?rA14
          case yA14 => (intro wz hz; go_simp; try with_reducible rfl)
          (try simp only [Act.put, List.setIfInBounds_toArray, List.set_cons_zero, List.set_cons_succ])
          refine PlanT.exec3 (fun K hK => ⟨by kernel_rfl, ?_⟩)
          go_simp
          refine hK.out _ _ trivial ?_
          clear hK K
          (try simp only [Act.put, List.setIfInBounds_toArray, List.set_cons_zero, List.set_cons_succ])
          refine PlanT.done (NoPanic.normal ?_)
          go_wp2
          go_ret2
          have hF := HOB6.out
          have hFN := firstN_more ps x
          rw [← HPE.out] at hFN
          rw [← HFX.out, ← rowsQ_snoc, ← hFN] at hF
          refine ⟨hF.be, .inl ⟨x, _, _, HFO.out, HGB.out, HOKX.out, ?_, hF⟩⟩
          rw [HNX.out]; push_cast; rfl
      · have HPE : Hid (firstN ps = if ps = [] then x.length else firstN ps) := Lib.hid (by rw [if_neg hps])
        have HPB : Hid (firstN ps ≤ 64) := Lib.hid (by
          have hp := List.length_pos_iff.2 hps
          unfold firstN
          cases hh : ps.head? with
          | none => exact absurd (List.head?_eq_none_iff.1 hh) hps
          | some p => exact (putErr_ok (HS.out.ok p (List.mem_of_mem_head? hh))).2.2)
        have hz : (rowsQ ps).length ≠ 0 := by rw [rowsQ_len]; have := List.length_pos_iff.2 hps; omega
        have d0 : (((rowsQ ps).length : Int) == 0) = false := by
          have : ((rowsQ ps).length : Int) ≠ 0 := by omega
          simpa using this
        have d0' : ¬ (rowsQ ps).length = 0 := hz
        have HPS := Lib.hid hps
        clear hps hz
        have HTK : Hid (∀ wz, OB W0 B q wz (firstN ps) (.slice ea FL.length ec) (.slice ra (rowsQ ps).length rc) vf FL (rowsQ ps) → Calls Tryz.prog 90 #[.pointer (some ⟨q, 0, none⟩), .int .i64 (x.length : Int)] wz fun e w' => e = .returned (.bool (okNext x.length (firstN ps) FL.length (rowsQ ps).length)) ∧ Below wz.heap.size wz w') := Lib.hid fun wz h => takes_any h.box (by have := HXL.out; omega) (by have := HPB.out; omega) (by have := HFE.out; omega) (by have := HRL.out; omega)
        cases hk : okNext x.length (firstN ps) FL.length (rowsQ ps).length with
        | false =>
          have HNK : Hid (¬ NextOk ps x) := Lib.hid (fun h => by have := (HNI.out x _ HPE.out).2 h; rw [hk] at this; cases this)
          rw [hk] at HTK
          clear hk
          go_enter Tryz.func65, Tryz.ntmps65
          go_wp2_with (first | (go_at_call 66; (refine (HG.out _ HO0.out.be).mono ?_); rintro e u1 ⟨y1, rfl, ho1, hb1⟩; have HY1 := Lib.hid ho1.read; have HOB1 := Lib.hid (HO0.out.call hb1); clear ho1 hb1) | (go_at_call 89; (refine (HBG.out _ _ HY1.out).mono ?_); rintro e u2 ⟨xv, rfl, ho2, hb2⟩; (obtain ⟨xa, xc, hxv, _, _⟩ := ho2.form); subst hxv; have hOB2 := HOB1.out.call hb2; have z0 := hOB2.cell 0; have z1 := hOB2.cell 1; have z2 := hOB2.cell 2; have t0 := hOB2.free 0; simp only [List.getElem?_toArray, List.getElem?_cons_zero, List.getElem?_cons_succ] at z0 z1 z2; have HOB2 := Lib.hid hOB2; have HX2 := Lib.hid ho2; have HDQ : Hid (q < u1.heap.size) := Lib.hid (blk_lt HOB1.out.box); have HDE : Hid (∀ j, (Value.slice ea FL.length ec).ownBlock = some j → j < u1.heap.size) := Lib.hid (own_lt HOB1.out.ents); clear ho2 hb2 hOB2) | (go_at_call 90; (refine (HTK.out _ HOB2.out).mono ?_); rintro e u3 ⟨rfl, hb3⟩; have hOB3 := HOB2.out.call hb3; have HX3 := Lib.hid (OwnE.below HX2.out hb3); have z1 := hOB3.cell 1; have z2 := hOB3.cell 2; have t1 := hOB3.free 1; simp only [List.getElem?_toArray, List.getElem?_cons_zero, List.getElem?_cons_succ] at z1 z2; have HOB3 := Lib.hid hOB3; clear hb3 hOB3))
          go_ret2
          exact ⟨HOB3.out.be, .inr ⟨.inr (.inr ⟨x, HGB.out, HNK.out⟩), rfl⟩⟩
        | true =>
          have HOKX : Hid (NextOk ps x) := Lib.hid ((HNI.out x _ HPE.out).1 hk)
          rw [hk] at HTK
          clear hk
          have HRO : Hid (∀ (xv : Value) (wz : World) (D : Nat), OwnE wz D xv x → Calls Tryz.prog 22 #[xv, .int .i64 ((tabQ ps).length : Int), .int .i64 ((frRaw (blockL x)).length : Int)] wz fun e w' => e = .returned (rwV (rowP x (tabQ ps).length)) ∧ Below wz.heap.size wz w') := Lib.hid fun xv wz D h => rowOf_any xv x _ _ wz (h.read HXF.out) HXN.out
          go_enter Tryz.func65, Tryz.ntmps65
          go_upto_region 10 with (first | (go_at_call 66; (refine (HG.out _ HO0.out.be).mono ?_); rintro e u1 ⟨y1, rfl, ho1, hb1⟩; have HY1 := Lib.hid ho1.read; have HOB1 := Lib.hid (HO0.out.call hb1); clear ho1 hb1) | (go_at_call 89; (refine (HBG.out _ _ HY1.out).mono ?_); rintro e u2 ⟨xv, rfl, ho2, hb2⟩; (obtain ⟨xa, xc, hxv, _, _⟩ := ho2.form); subst hxv; have hOB2 := HOB1.out.call hb2; have z0 := hOB2.cell 0; have z1 := hOB2.cell 1; have z2 := hOB2.cell 2; have t0 := hOB2.free 0; simp only [List.getElem?_toArray, List.getElem?_cons_zero, List.getElem?_cons_succ] at z0 z1 z2; have HOB2 := Lib.hid hOB2; have HX2 := Lib.hid ho2; have HDQ : Hid (q < u1.heap.size) := Lib.hid (blk_lt HOB1.out.box); have HDE : Hid (∀ j, (Value.slice ea FL.length ec).ownBlock = some j → j < u1.heap.size) := Lib.hid (own_lt HOB1.out.ents); clear ho2 hb2 hOB2) | (go_at_call 90; (refine (HTK.out _ HOB2.out).mono ?_); rintro e u3 ⟨rfl, hb3⟩; have hOB3 := HOB2.out.call hb3; have HX3 := Lib.hid (OwnE.below HX2.out hb3); have z1 := hOB3.cell 1; have z2 := hOB3.cell 2; have t1 := hOB3.free 1; simp only [List.getElem?_toArray, List.getElem?_cons_zero, List.getElem?_cons_succ] at z1 z2; have HOB3 := Lib.hid hOB3; clear hb3 hOB3) | (at_builtin; refine wpList_plain rfl fun K' hK' => ?_; refine wp_append_at (.tmp 49) (.tmp 50) 22 rfl 39 4 48 (.agg #[.string ⟨#[]⟩, .int .i64 0, .int .i64 0, .string ⟨#[]⟩]) Tryz.underlying22 info_ent rfl (by decide) _ _ _ _ _ _ rfl rfl HOB3.out.ents0 (rd_of_own HX3.out) (entFlat_one _) (by have h1 := HFE.out; have h2 := HXL.out; omega) (by have h1 := HFE.out; have h2 := HXL.out; unfold maxLen; omega) (fun v5 w5 hown5 hmv5 => hK' _ _ ?_); obtain ⟨hOB5, c5, f5⟩ := HOB3.out.putE hown5 hmv5; have HXX := Lib.hid (row_past (i := 1) (u := v5) HX3.out hmv5 HDE.out HDQ.out); (obtain ⟨ea5, ec5, hea5, _, _⟩ := hOB5.ents.form); (rw [List.length_append] at hea5); subst hea5; have HOB5 := Lib.hid hOB5; clear hOB5 hown5 hmv5))
          have HOBr := Lib.hid (HOB5.out.call (Below.refl _ _).drew)
          have HXr := Lib.hid (OwnE.below HXX.out (Below.refl _ _).drew)
          refine wp_region_two (fun wz => wz.cell? ⟨q, 2, none⟩ = some (.slice ra (rowsQ ps).length rc)) (fun _ => True) [(0, 0), (0, 1), (0, 2), (0, 3), (0, 4), (0, 5), (0, 6), (0, 7), (0, 8), (0, 9), (2, 10), (2, 11), (2, 12), (0, 13), (0, 14), (3, 15)] [15] (by kernel_rfl) (by kernel_rfl) (by kernel_rfl) (by kernel_rfl) (by kernel_rfl) (HOBr.out.cell 2) trivial ?_
          simp only [planT, List.drop_succ_cons, List.drop_zero]
          refine PlanT.take0 (v := ?vB0) (by kernel_rfl) ?yB0 ?rB0
          case yB0 => (intro wz hz; have z2 := hz; go_simp; try with_reducible rfl)
          (try simp only [Act.put, List.setIfInBounds_toArray, List.set_cons_zero, List.set_cons_succ])
          refine PlanT.take0 (v := ?vB1) (by kernel_rfl) ?yB1 ?rB1
          case yB1 => (intro wz hz; have z2 := hz; go_simp; try with_reducible rfl)
          (try simp only [Act.put, List.setIfInBounds_toArray, List.set_cons_zero, List.set_cons_succ])
          refine PlanT.take0 (v := ?vB2) (by kernel_rfl) ?yB2 ?rB2
          case yB2 => (intro wz hz; have z2 := hz; go_simp; try with_reducible rfl)
          (try simp only [Act.put, List.setIfInBounds_toArray, List.set_cons_zero, List.set_cons_succ])
          refine PlanT.take0 (v := ?vB3) (by kernel_rfl) ?yB3 ?rB3
          case yB3 => (intro wz hz; have z2 := hz; go_simp; try with_reducible rfl)
          (try simp only [Act.put, List.setIfInBounds_toArray, List.set_cons_zero, List.set_cons_succ])
          refine PlanT.take0 (v := ?vB4) (by kernel_rfl) ?yB4 ?rB4
          case yB4 => (intro wz hz; have z2 := hz; go_simp; try with_reducible rfl)
          (try simp only [Act.put, List.setIfInBounds_toArray, List.set_cons_zero, List.set_cons_succ])
          refine PlanT.take0 (v := ?vB5) (by kernel_rfl) ?yB5 ?rB5
          case yB5 => (intro wz hz; have z2 := hz; go_simp; try with_reducible rfl)
          (try simp only [Act.put, List.setIfInBounds_toArray, List.set_cons_zero, List.set_cons_succ])
          refine PlanT.take0 (v := ?vB6) (by kernel_rfl) ?yB6 ?rB6
          case yB6 => (intro wz hz; have z2 := hz; go_simp; try with_reducible rfl)
          (try simp only [Act.put, List.setIfInBounds_toArray, List.set_cons_zero, List.set_cons_succ])
          refine PlanT.take0 (v := ?vB7) (by kernel_rfl) ?yB7 ?rB7
          case yB7 => (intro wz hz; have z2 := hz; go_simp; try with_reducible rfl)
          (try simp only [Act.put, List.setIfInBounds_toArray, List.set_cons_zero, List.set_cons_succ])
          refine PlanT.take0 (v := ?vB8) (by kernel_rfl) ?yB8 ?rB8
          case yB8 => (intro wz hz; have z2 := hz; go_simp; try with_reducible rfl)
          (try simp only [Act.put, List.setIfInBounds_toArray, List.set_cons_zero, List.set_cons_succ])
          refine PlanT.take0 (v := .int .i64 ((frRaw (blockL x)).length : Int)) (by kernel_rfl) ?yB9 ?rB9
          case yB9 => (intro wz hz; have z2 := hz; go_simp; try with_reducible rfl)
          (try simp only [Act.put, List.setIfInBounds_toArray, List.set_cons_zero, List.set_cons_succ])
          refine PlanT.exec2 (fun K hK => ⟨by kernel_rfl, ?_⟩)
          go_simp
          refine (HRO.out _ _ _ HXr.out).mono ?_
          rintro e u4 ⟨rfl, hb4⟩
          have HOB4 := Lib.hid (HOBr.out.call hb4)
          clear hb4
          refine hK.out _ _ (HOB4.out.cell 2) trivial ?_
          clear hK K
          (try simp only [Act.put, List.setIfInBounds_toArray, List.set_cons_zero, List.set_cons_succ])
          refine PlanT.exec2 (fun K hK => ⟨by kernel_rfl, ?_⟩)
          go_simp
          have hba : Below u4.heap.size u4 (u4.alloc (.cells #[.string (lastE x).u, .int .i64 (lastE x).s, .int .i64 (lastE x).k, .int .i64 ((tabQ ps).length : Int), .int .i64 ((frRaw (blockL x)).length : Int)] 60)) := (Below.refl _ _).alloc (Nat.le_refl _) _
          have HOB5 := Lib.hid (HOB4.out.call hba)
          clear hba
          refine hK.out _ _ (HOB5.out.cell 2) trivial ?_
          clear hK K
          (try simp only [Act.put, List.setIfInBounds_toArray, List.set_cons_zero, List.set_cons_succ])
          refine PlanT.exec2 (fun K hK => ⟨by kernel_rfl, ?_⟩)
          refine wp_append_at (.tmp 58) (.tmp 65) 53 rfl 60 5 48 (.agg #[.string ⟨#[]⟩, .int .i64 0, .int .i64 0, .int .i64 0, .int .i64 0]) Tryz.underlying53 info_rw rfl (by decide) _ _ _ 1 _ ([rowP x (tabQ ps).length].flatMap Rw.cells) rfl rfl HOB5.out.rows0 (one_rw u4 (rowP x (tabQ ps).length)) (rwFlat_one _) (by have := HRL.out; omega) (by have := HRL.out; unfold maxLen; omega) ?kB
          intro v6 w6 hown6 hmv6
          obtain ⟨hOB6, c6, f6⟩ := HOB5.out.putR (m := [rowP x (tabQ ps).length]) hown6 hmv6
          obtain ⟨ra6, rc6, hra6, _, _⟩ := hOB6.rows.form
          rw [List.length_append, List.length_singleton] at hra6
          subst hra6
          have HOB6 := Lib.hid hOB6
          clear hOB6 hown6 hmv6
          refine hK.out _ _ c6 trivial ?_
          clear hK K
          (try simp only [Act.put, List.setIfInBounds_toArray, List.set_cons_zero, List.set_cons_succ])
          refine PlanT.take0 (v := ?vB13) (by kernel_rfl) ?yB13 ?rB13
          case yB13 => (intro wz hz; go_simp; try with_reducible rfl)
          (try simp only [Act.put, List.setIfInBounds_toArray, List.set_cons_zero, List.set_cons_succ])
          refine PlanT.take0 (v := ?vB14) (by kernel_rfl) ?yB14 ?rB14
          case yB14 => (intro wz hz; go_simp; try with_reducible rfl)
          (try simp only [Act.put, List.setIfInBounds_toArray, List.set_cons_zero, List.set_cons_succ])
          refine PlanT.exec3 (fun K hK => ⟨by kernel_rfl, ?_⟩)
          go_simp
          refine hK.out _ _ trivial ?_
          clear hK K
          (try simp only [Act.put, List.setIfInBounds_toArray, List.set_cons_zero, List.set_cons_succ])
          refine PlanT.done (NoPanic.normal ?_)
          go_wp2
          go_ret2
          have hF := HOB6.out
          have hFN := firstN_more ps x
          rw [← HPE.out] at hFN
          rw [← HFX.out, ← rowsQ_snoc, ← hFN] at hF
          refine ⟨hF.be, .inl ⟨x, _, _, HFO.out, HGB.out, HOKX.out, ?_, hF⟩⟩
          rw [HNX.out]; push_cast; rfl
end Go.Proofs.YteeikmpfgbfeoaaGreat

/-
  Tables: open: a table is read.
-/
namespace Go.Proofs.YteeikmpfgbfeoaaGreat
open Go.RowKit

/-- What open tells. -/
def RetOpen (w : World) (b : List UInt8) (e : Ending) (w' : World) : Prop :=
  match getT b with
  | none => e = .returned (.tuple #[.agg #[.int .i64 0, .slice none 0 0, .slice none 0 0, .slice none 0 0], .bool false]) ∧ Below w.heap.size w w'
  | some (es, f) => ∃ (ps : List (List Ent)) (per : Nat) (ve vr vf : Value), e = .returned (.tuple #[.agg #[.int .i64 (per : Int), ve, vr, vf], .bool true]) ∧ OwnE w' w.heap.size ve es ∧ OwnR w' w.heap.size vr (rowsQ ps) ∧ OwnB w' w.heap.size 5 vf f ∧
      Seen b ps ∧ ps.flatten = es ∧ ps ≠ [] ∧ Below w.heap.size w w'

theorem atT_pos {b : List UInt8} {es : List Ent} {per : Nat} {f : List UInt8} (h : IsTabP b es per f) (hb : b.length ≤ 1000000) : 0 < atT b := by
  rw [h.at_ (by omega)]
  have h1 := (nBlk_lt (es := es) h.1 0).2 (by have := List.length_pos_iff.2 h.2.2.1.2.1; omega)
  have h2 := tabB_lt es per h1
  omega
theorem rest_rd {w : World} {bb off len cap m : Nat} {l : List UInt8} (h : RdB w (.slice (some ⟨bb, off, none⟩) len cap) l) (hm : m ≤ len) : RdB w (.slice (if cap = m then some ⟨bb, off, none⟩ else some ⟨bb, off + m, none⟩) (len - m) (cap - m)) (l.drop m) := by
  obtain ⟨a', cap', hv, h1, h2, h0, h3⟩ := h
  injection hv with hva hvl hvc
  subst hva hvc
  rw [← hvl] at h1 h0 h3
  refine ⟨_, _, by rw [List.length_drop]; congr 1; omega, by rw [List.length_drop]; omega, by omega, by simp, ?_⟩
  by_cases hc : cap = m
  · rw [if_pos hc]
    left
    refine ⟨by rw [List.length_drop]; omega, fun h => (by cases h)⟩
  · rw [if_neg hc]
    by_cases hlm : len = m
    · left
      exact ⟨by rw [List.length_drop]; omega, fun h => (by cases h)⟩
    · rcases h3 with ⟨h3, _⟩ | ⟨b', off', hb, h4, h5⟩
      · omega
      · cases hb
        refine .inr ⟨bb, off + m, rfl, h4, fun j u hj => ?_⟩
        rw [Nat.add_assoc]
        refine h5 (m + j) u ?_
        rw [List.getElem?_map, List.getElem?_drop] at hj
        rw [List.getElem?_map]
        exact hj

set_option maxRecDepth 100000 in
set_option maxHeartbeats 1000000 in
theorem open_any (v : Value) (b : List UInt8) (w : World) (hv : RdB w v b) (hl : b.length ≤ 1000000) : Calls Tryz.prog 30 #[v] w (RetOpen w b) := by
  have HV := Lib.hid hv
  obtain ⟨va, vc, rfl, hc1, hc2⟩ := hv.form
  unfold maxLen at hc2
  have hwf : IntKind.i64.wrap ((b.length : Int) - 16) = (b.length : Int) - 16 := IntWalk.i64_in _ (by omega)
  have hbe1 := (Below.refl w.heap.size w).alloc (Nat.le_refl _) (.cells #[.int .i64 0, .slice none 0 0, .slice none 0 0, .slice none 0 0] 68)
  have HBE1 := Lib.hid hbe1
  by_cases h16 : b.length < 16
  · have HNO : Hid (getT b = none) := Lib.hid (getT_none fun es f ⟨per, h⟩ => by have := IsTabP.len (show IsTabP b es per f from h); omega)
    have HF := Lib.hid (getFixed_out (.slice va b.length vc) b ((b.length : Int) - 16) 4 (by omega) (by omega) _ (hv.below hbe1 (Nat.le_refl _)))
    clear hv hbe1
    go_enter Tryz.func30, Tryz.ntmps30
    go_wp2_with (go_at_call 64; (refine HF.out.mono ?_); rintro e w1 ⟨rfl, rfl⟩)
    refine bodyPost_ret (results_row_tmp rfl _ _ w.heap.size 68 #[.int .i64 0, .slice none 0 0, .slice none 0 0, .slice none 0 0] (0, 0) _ rfl (heap_alloc_new w _) Tryz.underlying68 rfl (by kernel_rfl)) rfl ?_
    unfold RetOpen
    rw [HNO.out]
    exact ⟨rfl, HBE1.out⟩
  · obtain ⟨m, hm⟩ : ∃ m, b.length = m + 16 := ⟨b.length - 16, by omega⟩
    have hgf := getFixed_yes (.slice va b.length vc) b m 4 (by omega) (by omega) _ (hv.below hbe1 (Nat.le_refl _))
    have hat : valL ((b.drop m).take 4) = atT b := by unfold atT; rw [hm, Nat.add_sub_cancel]
    rw [hat, show (m : Int) = (b.length : Int) - 16 by omega] at hgf
    have HF := Lib.hid hgf
    have hat2 : atT b < 4294967296 := by
      have := valL_lt ((b.drop m).take 4)
      rw [hat, List.length_take, List.length_drop] at this
      have h4 : min 4 (b.length - m) = 4 := by omega
      rw [h4] at this
      omega
    clear hat hgf hm
    by_cases h0 : atT b = 0
    · have HNO : Hid (getT b = none) := Lib.hid (getT_none fun es f ⟨per, h⟩ => by have := atT_pos (show IsTabP b es per f from h) hl; omega)
      have d0 : ((atT b : Int) == 0) = true := by rw [h0]; rfl
      clear h0 hv hbe1 hat2
      go_enter Tryz.func30, Tryz.ntmps30
      go_wp2_with (go_at_call 64; (refine HF.out.mono ?_); rintro e w1 ⟨rfl, rfl⟩)
      refine bodyPost_ret (results_row_tmp rfl _ _ w.heap.size 68 #[.int .i64 0, .slice none 0 0, .slice none 0 0, .slice none 0 0] (0, 0) _ rfl (heap_alloc_new w _) Tryz.underlying68 rfl (by kernel_rfl)) rfl ?_
      unfold RetOpen
      rw [HNO.out]
      exact ⟨rfl, HBE1.out⟩
    · have d0 : ((atT b : Int) == 0) = false := by
        have : (atT b : Int) ≠ 0 := by omega
        simpa using this
      have HAT0 := Lib.hid h0
      clear h0 hv hbe1
      go_enter Tryz.func30, Tryz.ntmps30
      go_wp2_with (go_at_call 64; (refine HF.out.mono ?_); rintro e w1 ⟨rfl, rfl⟩)
      have hz2 := heap_new2 w (.cells #[.int .i64 0, .slice none 0 0, .slice none 0 0, .slice none 0 0] 68) (.cells #[.int .i64 0, .slice none 0 0, .slice none 0 0, .slice none 0 0] 68)
      have hOB0 : OB (w.alloc (.cells #[.int .i64 0, .slice none 0 0, .slice none 0 0, .slice none 0 0] 68)) (w.heap.size + 1) (w.heap.size + 1) ((w.alloc (.cells #[.int .i64 0, .slice none 0 0, .slice none 0 0, .slice none 0 0] 68)).alloc (.cells #[.int .i64 0, .slice none 0 0, .slice none 0 0, .slice none 0 0] 68)) (firstN []) (.slice none 0 0) (.slice none 0 0) (.slice none 0 0) ([] : List (List Ent)).flatten (rowsQ []) := ⟨hz2, World.ownsRow_nil _ _ _ _, World.ownsRow_nil _ _ _ _, (fun _ h => by cases h), (fun h => by cases h), (fun h => by cases h), (Below.refl _ _).alloc (by simp) _, by simp, Nat.le_refl _⟩
      have HOB0 := Lib.hid hOB0
      clear hz2 hOB0
      go_loopw [5, 7] (fun ok i wr => ∃ (ps : List (List Ent)) (ve vr : Value), ok = .bool true ∧ i = .int .i64 ((tabQ ps).length : Int) ∧ Hid (OB (w.alloc (.cells #[.int .i64 0, .slice none 0 0, .slice none 0 0, .slice none 0 0] 68)) (w.heap.size + 1) (w.heap.size + 1) wr (firstN ps) ve vr (.slice none 0 0) ps.flatten (rowsQ ps)) ∧ Hid (Seen b ps) ∧ Hid (Fits b ps)) (fun _ i _ => b.length - (intOf i).toNat)
      case atStart => exact ⟨[], _, _, rfl, rfl, HOB0, Lib.hid (Seen.start b), Lib.hid (Fits.start b)⟩
      case round =>
        obtain ⟨ps, ve, vr, rfl, rfl, HOB, HS, HFT⟩ := hrel
        have HVR : Hid (∀ wz, Below (w.heap.size + 1) (w.alloc (.cells #[.int .i64 0, .slice none 0 0, .slice none 0 0, .slice none 0 0] 68)) wz → RdB wz (.slice va b.length vc) b) := Lib.hid fun wz hz => (HV.out.below HBE1.out (Nat.le_refl _)).below hz (by simp)
        have HPR : Hid (∀ wz, Below (w.heap.size + 1) (w.alloc (.cells #[.int .i64 0, .slice none 0 0, .slice none 0 0, .slice none 0 0] 68)) wz → wz.heap[w.heap.size]? = some (.cells #[.int .i64 0, .slice none 0 0, .slice none 0 0, .slice none 0 0] 68 (0, 0)) ∧ Below w.heap.size w wz) := Lib.hid fun wz hz => ⟨(hz.block _ (by omega)).trans (heap_alloc_new w _), HBE1.out.trans (hz.mono (by omega))⟩
        by_cases hlt : (tabQ ps).length < atT b
        · have d1 : ((tabQ ps).length : Int) < (atT b : Int) := by omega
          by_cases hgood : ∃ x, frOk b (tabQ ps).length = true ∧ getB (frP b (tabQ ps).length) = some x ∧ NextOk ps x
          · obtain ⟨x, hf, hx, hn⟩ := hgood
            obtain ⟨hS2, hln⟩ := HS.out.more hf hx hn.1 hn.2.1 hn.2.2
            have hF2 := HFT.out.more hl hlt hx
            have hfl := frOk_le hf
            have HAD : Hid (Calls Tryz.prog 65 #[.pointer (some ⟨w.heap.size + 1, 0, none⟩), .slice va b.length vc, .int .i64 ((tabQ ps).length : Int)] wr fun e w' => e = .returned (.tuple #[.int .i64 ((tabQ (ps ++ [x])).length : Int), .bool true]) ∧ ∃ ve' vr', OB (w.alloc (.cells #[.int .i64 0, .slice none 0 0, .slice none 0 0, .slice none 0 0] 68)) (w.heap.size + 1) (w.heap.size + 1) w' (firstN (ps ++ [x])) ve' vr' (.slice none 0 0) (ps ++ [x]).flatten (rowsQ (ps ++ [x]))) := Lib.hid (by
              refine (add_any HOB.out (by simp) (HV.out.below HBE1.out (Nat.le_refl _)) hl HS.out).mono ?_
              rintro e w' ⟨_, ⟨y, ve', vr', _, hy, _, rfl, hob⟩ | ⟨hno, _⟩⟩
              · rw [hx] at hy
                cases hy
                exact ⟨rfl, ve', vr', hob⟩
              · rcases hno with h | h | ⟨y, hy, h⟩
                · rw [hf] at h; cases h
                · rw [hx] at h; cases h
                · rw [hx] at hy
                  cases hy
                  exact absurd hn h)
            generalize ps ++ [x] = PS at *
            have HS2 := Lib.hid hS2
            have HF2 := Lib.hid hF2
            have hgt : (tabQ ps).length < (tabQ PS).length := by omega
            have hgl : (tabQ PS).length ≤ b.length := by omega
            have HGT := Lib.hid hgt
            have HGL := Lib.hid hgl
            clear hf hx hn hS2 hln hF2 hfl hlt hgt hgl
            go_wp2_with (go_at_call 65; (refine HAD.out.mono ?_); rintro e u1 ⟨rfl, ve', vr', hob⟩; have HOB' := Lib.hid hob; clear hob)
            refine ⟨⟨PS, ve', vr', rfl, rfl, HOB', HS2, HF2⟩, ?_⟩
            have h1 := HGT.out
            have h2 := HGL.out
            simp [intOf]
            omega
          · have HNO : Hid (getT b = none) := Lib.hid (getT_none fun es f ⟨per, h⟩ => by
              obtain ⟨k1, k2, _, _⟩ := HFT.out.one hl hlt (show IsTabP b es per f from h)
              exact hgood ⟨_, k1, k2, HFT.out.takes hl hlt k2 (show IsTabP b es per f from h)⟩)
            have HAD : Hid (Calls Tryz.prog 65 #[.pointer (some ⟨w.heap.size + 1, 0, none⟩), .slice va b.length vc, .int .i64 ((tabQ ps).length : Int)] wr fun e w' => e = .returned (.tuple #[.int .i64 0, .bool false]) ∧ Below (w.heap.size + 1) (w.alloc (.cells #[.int .i64 0, .slice none 0 0, .slice none 0 0, .slice none 0 0] 68)) w') := Lib.hid (by
              refine (add_any HOB.out (by simp) (HV.out.below HBE1.out (Nat.le_refl _)) hl HS.out).mono ?_
              rintro e w' ⟨hb, ⟨y, _, _, hf, hy, hn, _⟩ | ⟨_, rfl⟩⟩
              · exact absurd ⟨y, hf, hy, hn⟩ hgood
              · exact ⟨rfl, hb⟩)
            clear hgood hlt
            go_wp2_with (go_at_call 65; (refine HAD.out.mono ?_); rintro e u1 ⟨rfl, hb1⟩; obtain ⟨hrow, hbu⟩ := HPR.out _ hb1; have HBU := Lib.hid hbu; clear hbu hb1; have s0 := blk_cell (i := 0) hrow; have t0 := blk_free (i := 0) hrow; have s1 := blk_cell (i := 1) hrow; have t1 := blk_free (i := 1) hrow; have s2 := blk_cell (i := 2) hrow; have t2 := blk_free (i := 2) hrow; have s3 := blk_cell (i := 3) hrow; have t3 := blk_free (i := 3) hrow; simp only [List.getElem?_toArray, List.getElem?_cons_zero, List.getElem?_cons_succ] at s0 s1 s2 s3; have HROW := Lib.hid hrow; clear hrow)
            refine bodyPost_ret (results_row_tmp rfl _ _ w.heap.size 68 #[.int .i64 0, .slice none 0 0, .slice none 0 0, .slice none 0 0] (0, 0) _ rfl ?hgC Tryz.underlying68 rfl (by kernel_rfl)) rfl ?_
            case hgC => exact (set4 HROW.out rfl rfl rfl rfl).1
            unfold RetOpen
            rw [HNO.out]
            exact ⟨rfl, (set4 HROW.out rfl rfl rfl rfl).2 _ (Nat.le_refl _) _ (HBU.out)⟩
        · have d1 : ¬ ((tabQ ps).length : Int) < (atT b : Int) := by omega
          have HEND := Lib.hid (fun es f per (h : IsTabP b es per f) => HFT.out.end_ hl hlt h)
          have hne : ps ≠ [] := by
            rintro rfl
            exact hlt (by show (tabQ []).length < atT b; have := HAT0.out; simp only [tabQ, List.flatMap_nil, List.length_nil]; omega)
          have HNE := Lib.hid hne
          clear hne
          have hTLb : (tabQ ps).length ≤ b.length := by
            have := congrArg List.length HS.out.bytes
            rw [List.length_take] at this
            omega
          have HTLB := Lib.hid hTLb
          have HRL : Hid ((rowsQ ps).length ≤ 256) := Lib.hid (by rw [rowsQ_len]; exact HS.out.len)
          have HRK := Lib.hid (rowsQ_ok HS.out.ok HS.out.len)
          have HTAB := Lib.hid (fun ho hr he => HS.out.table HNE.out ho hr he)
          have HOBX : Hid (∃ (FL : List Ent), ps.flatten = FL) := Lib.hid ⟨_, rfl⟩
          have hfew := HS.out.few
          have hff : ∀ e ∈ ps.flatten, e.fits := fun e he => by
            obtain ⟨p, hp, he⟩ := List.mem_flatten.1 he
            exact Ent.may_fits (rising_all (putErr_ok (HS.out.ok p hp)).1 e he)
          have HFIN := Lib.hid (fun (f : List UInt8) (hg : getT b = some (ps.flatten, f)) (w' : World) (ve' vr' vf' : Value) (h1 : OwnE w' w.heap.size ve' ps.flatten) (h2 : OwnR w' w.heap.size vr' (rowsQ ps)) (h3 : OwnB w' w.heap.size 5 vf' f) (h4 : Below w.heap.size w w') => (show RetOpen w b (.returned (.tuple #[.agg #[.int .i64 (firstN ps : Int), ve', vr', vf'], .bool true])) w' by
            unfold RetOpen
            rw [hg]
            exact ⟨ps, firstN ps, ve', vr', vf', rfl, h1, h2, h3, HS.out, rfl, HNE.out, h4⟩))
          have hg : ∀ wz, Below (w.heap.size + 1) (w.alloc (.cells #[.int .i64 0, .slice none 0 0, .slice none 0 0, .slice none 0 0] 68)) wz → Calls Tryz.prog 66 #[.slice va b.length vc, .int .i64 ((tabQ ps).length : Int)] wz (GetFr wz b ((tabQ ps).length : Int)) := fun wz hz => fget_any wz _ b _ (HVR.out wz hz) (by omega) (by omega)
          clear HOBX
          generalize ps.flatten = FL at *
          have HFE := Lib.hid hfew
          have HFF := Lib.hid hff
          clear hff
          clear hfew hTLb hlt
          obtain ⟨ea, ec, hve, _, _⟩ := HOB.out.ents.form
          subst hve
          obtain ⟨ra, rc, hvr, _, _⟩ := HOB.out.rows.form
          subst hvr
          cases hf : frOk b (tabQ ps).length with
          | false =>
            have HNO : Hid (getT b = none) := Lib.hid (getT_none fun es f ⟨per, h⟩ => by
              have := (HEND.out es f per h).2.1
              rw [hf] at this
              cases this)
            have HG : Hid (∀ wz, Below (w.heap.size + 1) (w.alloc (.cells #[.int .i64 0, .slice none 0 0, .slice none 0 0, .slice none 0 0] 68)) wz → Calls Tryz.prog 66 #[.slice va b.length vc, .int .i64 ((tabQ ps).length : Int)] wz fun e w' => e = .returned (.tuple #[.slice none 0 0, .int .i64 0, .bool false]) ∧ Below wz.heap.size wz w') := Lib.hid fun wz hz => by
              refine (hg wz hz).mono ?_
              rintro e w' (⟨_, rfl, hb⟩ | ⟨p, hp, ho, _⟩)
              · exact ⟨rfl, hb⟩
              · obtain rfl : p = (tabQ ps).length := by omega
                rw [hf] at ho
                cases ho
            clear hg hf
            go_upto_region 11 with (go_at_call 66; (refine (HG.out _ HOB.out.be).mono ?_); rintro e u5 ⟨rfl, hb5⟩; have HOB5 := Lib.hid ((HOB.out.call hb5).call (Below.refl _ _).drew); clear hb5)
            refine wp_region_two (fun wz => wz.cell? ⟨w.heap.size + 1, 1, none⟩ = some (.slice ea FL.length ec) ∧ wz.cell? ⟨w.heap.size + 1, 2, none⟩ = some (.slice ra (rowsQ ps).length rc)) (fun _ => True) [(0, 0), (0, 1), (0, 2), (0, 3), (0, 4), (2, 5), (0, 6), (0, 7), (0, 8), (0, 9), (0, 10), (0, 11), (0, 12), (0, 13), (0, 14), (0, 15), (0, 16), (0, 17), (0, 18), (2, 19), (2, 20), (0, 21), (0, 22)] [] (by kernel_rfl) (by kernel_rfl) (by kernel_rfl) (by kernel_rfl) (by kernel_rfl) ⟨HOB5.out.cell 1, HOB5.out.cell 2⟩ trivial ?_
            simp only [planT, List.drop_succ_cons, List.drop_zero]
            refine PlanT.take0 (v := ?vQ0) (by kernel_rfl) ?yQ0 ?rQ0
            case yQ0 => (intro wz hz; have z1 := hz.1; have z2 := hz.2; go_simp; try with_reducible rfl)
            (try simp only [Act.put, List.setIfInBounds_toArray, List.set_cons_zero, List.set_cons_succ])
            refine PlanT.take0 (v := .bool true) (by kernel_rfl) ?yQ1 ?rQ1
            case yQ1 => (intro wz hz; have z1 := hz.1; have z2 := hz.2; go_simp; try with_reducible rfl)
            (try simp only [Act.put, List.setIfInBounds_toArray, List.set_cons_zero, List.set_cons_succ])
            refine PlanT.take0 (v := .bool true) (by kernel_rfl) ?yQ2 ?rQ2
            case yQ2 => (intro wz hz; have z1 := hz.1; have z2 := hz.2; go_simp; try with_reducible rfl)
            (try simp only [Act.put, List.setIfInBounds_toArray, List.set_cons_zero, List.set_cons_succ])
            refine PlanT.skip (by kernel_rfl) ?_
            (try simp only [Act.put, List.setIfInBounds_toArray, List.set_cons_zero, List.set_cons_succ])
            refine PlanT.skip (by kernel_rfl) ?_
            (try simp only [Act.put, List.setIfInBounds_toArray, List.set_cons_zero, List.set_cons_succ])
            refine PlanT.skip (by kernel_rfl) ?_
            (try simp only [Act.put, List.setIfInBounds_toArray, List.set_cons_zero, List.set_cons_succ])
            refine PlanT.skip (by kernel_rfl) ?_
            (try simp only [Act.put, List.setIfInBounds_toArray, List.set_cons_zero, List.set_cons_succ])
            refine PlanT.take0 (v := .bool true) (by kernel_rfl) ?yQ7 ?rQ7
            case yQ7 => (intro wz hz; have z1 := hz.1; have z2 := hz.2; go_simp; try with_reducible rfl)
            (try simp only [Act.put, List.setIfInBounds_toArray, List.set_cons_zero, List.set_cons_succ])
            refine PlanT.take0 (v := .bool true) (by kernel_rfl) ?yQ8 ?rQ8
            case yQ8 => (intro wz hz; have z1 := hz.1; have z2 := hz.2; go_simp; try with_reducible rfl)
            (try simp only [Act.put, List.setIfInBounds_toArray, List.set_cons_zero, List.set_cons_succ])
            refine PlanT.skip (by kernel_rfl) ?_
            (try simp only [Act.put, List.setIfInBounds_toArray, List.set_cons_zero, List.set_cons_succ])
            refine PlanT.skip (by kernel_rfl) ?_
            (try simp only [Act.put, List.setIfInBounds_toArray, List.set_cons_zero, List.set_cons_succ])
            refine PlanT.skip (by kernel_rfl) ?_
            (try simp only [Act.put, List.setIfInBounds_toArray, List.set_cons_zero, List.set_cons_succ])
            refine PlanT.skip (by kernel_rfl) ?_
            (try simp only [Act.put, List.setIfInBounds_toArray, List.set_cons_zero, List.set_cons_succ])
            refine PlanT.skip (by kernel_rfl) ?_
            (try simp only [Act.put, List.setIfInBounds_toArray, List.set_cons_zero, List.set_cons_succ])
            refine PlanT.skip (by kernel_rfl) ?_
            (try simp only [Act.put, List.setIfInBounds_toArray, List.set_cons_zero, List.set_cons_succ])
            refine PlanT.skip (by kernel_rfl) ?_
            (try simp only [Act.put, List.setIfInBounds_toArray, List.set_cons_zero, List.set_cons_succ])
            refine PlanT.skip (by kernel_rfl) ?_
            (try simp only [Act.put, List.setIfInBounds_toArray, List.set_cons_zero, List.set_cons_succ])
            refine PlanT.skip (by kernel_rfl) ?_
            (try simp only [Act.put, List.setIfInBounds_toArray, List.set_cons_zero, List.set_cons_succ])
            refine PlanT.skip (by kernel_rfl) ?_
            (try simp only [Act.put, List.setIfInBounds_toArray, List.set_cons_zero, List.set_cons_succ])
            refine PlanT.skip (by kernel_rfl) ?_
            (try simp only [Act.put, List.setIfInBounds_toArray, List.set_cons_zero, List.set_cons_succ])
            refine PlanT.skip (by kernel_rfl) ?_
            (try simp only [Act.put, List.setIfInBounds_toArray, List.set_cons_zero, List.set_cons_succ])
            refine PlanT.skip (by kernel_rfl) ?_
            (try simp only [Act.put, List.setIfInBounds_toArray, List.set_cons_zero, List.set_cons_succ])
            refine PlanT.take0 (v := ?vQ22) (by kernel_rfl) ?yQ22 ?rQ22
            case yQ22 => (intro wz hz; have z1 := hz.1; have z2 := hz.2; go_simp; try with_reducible rfl)
            (try simp only [Act.put, List.setIfInBounds_toArray, List.set_cons_zero, List.set_cons_succ])
            refine PlanT.done (NoPanic.normal ?_)
            obtain ⟨uw, huw⟩ : ∃ uw, u5.drew = uw := ⟨_, rfl⟩
            rw [huw] at HOB5 ⊢
            clear huw
            obtain ⟨hrow, hbu⟩ := HPR.out _ HOB5.out.be
            have HBU := Lib.hid hbu
            clear hbu
            have s0 := blk_cell (i := 0) hrow
            have t0 := blk_free (i := 0) hrow
            have s1 := blk_cell (i := 1) hrow
            have t1 := blk_free (i := 1) hrow
            have s2 := blk_cell (i := 2) hrow
            have t2 := blk_free (i := 2) hrow
            have s3 := blk_cell (i := 3) hrow
            have t3 := blk_free (i := 3) hrow
            simp only [List.getElem?_toArray, List.getElem?_cons_zero, List.getElem?_cons_succ] at s0 s1 s2 s3
            have HROW := Lib.hid hrow
            clear hrow
            go_wp2
            refine bodyPost_ret (results_row_tmp rfl _ _ w.heap.size 68 #[.int .i64 0, .slice none 0 0, .slice none 0 0, .slice none 0 0] (0, 0) _ rfl ?hgD Tryz.underlying68 rfl (by kernel_rfl)) rfl ?_
            case hgD => exact (set4 HROW.out rfl rfl rfl rfl).1
            unfold RetOpen
            rw [HNO.out]
            exact ⟨rfl, (set4 HROW.out rfl rfl rfl rfl).2 _ (Nat.le_refl _) _ (HBU.out)⟩
          | true =>
            have hle := frOk_le hf
            have hfl := frP_length hle
            have HLE := Lib.hid hle
            have HG : Hid (∀ wz, Below (w.heap.size + 1) (w.alloc (.cells #[.int .i64 0, .slice none 0 0, .slice none 0 0, .slice none 0 0] 68)) wz → Calls Tryz.prog 66 #[.slice va b.length vc, .int .i64 ((tabQ ps).length : Int)] wz fun e w' => ∃ u, e = .returned (.tuple #[u, .int .i64 (((tabQ ps).length + 8 + frN b (tabQ ps).length : Nat) : Int), .bool true]) ∧ OwnB w' wz.heap.size 5 u (frP b (tabQ ps).length) ∧ Below wz.heap.size wz w') := Lib.hid fun wz hz => by
              refine (hg wz hz).mono ?_
              rintro e w' (⟨hno, _, _⟩ | ⟨p, hp, _, u, rfl, ho, hb⟩)
              · have := hno _ rfl
                rw [hf] at this
                cases this
              · obtain rfl : p = (tabQ ps).length := by omega
                exact ⟨u, rfl, ho, hb⟩
            have HFO := Lib.hid hf
            clear hg hf
            generalize hM : (tabQ ps).length + 8 + frN b (tabQ ps).length = M at *
            have HRI0 : ∀ xv wz B, OwnE wz B xv FL → (∀ e ∈ FL, e.fits) → Calls Tryz.prog 18 #[xv] wz fun e w' => e = .returned (.bool (risingB FL)) ∧ Below wz.heap.size wz w' := fun xv wz B h hf => rising_any xv FL wz (h.read hf)
            obtain ⟨bb, bo, hbv⟩ : ∃ bb bo, va = some ⟨bb, bo, none⟩ := by
              obtain ⟨bb, bo, cap, h, _⟩ := HV.out.cells (by rintro rfl; simp at h16)
              cases h
              exact ⟨bb, bo, rfl⟩
            subst hbv
            obtain ⟨sv, hsv⟩ : ∃ sv, sv = (if vc = M then some (⟨bb, bo, none⟩ : Addr) else some ⟨bb, bo + M, none⟩) := ⟨_, rfl⟩
            have HSV := Lib.hid hsv
            clear hsv
            have HEQ : Hid (∀ wz y, Below (w.heap.size + 1) (w.alloc (.cells #[.int .i64 0, .slice none 0 0, .slice none 0 0, .slice none 0 0] 68)) wz → RdB wz y (endB (rowsQ ps) ((tabQ ps).length : Int) (M : Int) (FL.length : Int)) → Calls Tryz.prog 67 #[.slice sv (b.length - M) (vc - M), y] wz fun e w' => e = .returned (.bool (decide (b.drop M = endB (rowsQ ps) ((tabQ ps).length : Int) (M : Int) (FL.length : Int)))) ∧ Below wz.heap.size wz w') := Lib.hid fun wz y hz hy => by
              have hr := rest_rd (m := M) (HVR.out wz hz) (by omega)
              obtain ⟨ya, yc, rfl, _, _⟩ := hy.form
              rw [← HSV.out] at hr
              have h := equal_any12 wz sv ya (vc - M) yc (b.drop M) _ (by rw [List.length_drop]; exact hr) hy
              rw [List.length_drop] at h
              exact h
            have HPE : Hid (∀ (rv : Value) (wz : World), RdR wz rv (rowsQ ps) → Calls Tryz.prog 25 #[rv, .int .i64 ((tabQ ps).length : Int), .int .i64 (M : Int), .int .i64 (FL.length : Int)] wz (RetB wz.heap.size wz (endB (rowsQ ps) ((tabQ ps).length : Int) (M : Int) (FL.length : Int)))) := Lib.hid fun rv wz h => putEnd_any rv _ _ _ _ wz h HRK.out HRL.out
            have hMl : M ≤ b.length := by have := HLE.out; omega
            have hM1 : (M : Int) ≤ (b.length : Int) := by omega
            clear hle hM hfl
            cases hr : risingB FL with
            | false =>
              have HNO : Hid (getT b = none) := Lib.hid (getT_none fun es f ⟨per, h⟩ => by
                have := (HEND.out es f per h).2.2.2.1
                rw [hr] at this
                cases this)
              have HRI : Hid (∀ wz, OwnE wz (w.heap.size + 1) (.slice ea FL.length ec) FL → Calls Tryz.prog 18 #[.slice ea FL.length ec] wz fun e w' => e = .returned (.bool false) ∧ Below wz.heap.size wz w') := Lib.hid fun wz h => by
                have h := HRI0 _ wz _ h HFF.out
                rw [hr] at h
                exact h
              clear hr HRI0
              go_upto_region 11 with (go_at_call 66; (refine (HG.out _ HOB.out.be).mono ?_); rintro e u5 ⟨y5, rfl, ho5, hb5⟩; have HOB5 := Lib.hid ((HOB.out.call hb5).call (Below.refl _ _).drew); clear hb5 ho5)
              refine wp_region_two (fun wz => wz.cell? ⟨w.heap.size + 1, 1, none⟩ = some (.slice ea FL.length ec) ∧ wz.cell? ⟨w.heap.size + 1, 2, none⟩ = some (.slice ra (rowsQ ps).length rc)) (fun _ => True) [(0, 0), (0, 1), (0, 2), (0, 3), (0, 4), (2, 5), (0, 6), (0, 7), (0, 8), (0, 9), (0, 10), (0, 11), (0, 12), (0, 13), (0, 14), (0, 15), (0, 16), (0, 17), (0, 18), (2, 19), (2, 20), (0, 21), (0, 22)] [] (by kernel_rfl) (by kernel_rfl) (by kernel_rfl) (by kernel_rfl) (by kernel_rfl) ⟨HOB5.out.cell 1, HOB5.out.cell 2⟩ trivial ?_
              simp only [planT, List.drop_succ_cons, List.drop_zero]
              refine PlanT.take0 (v := ?vR0) (by kernel_rfl) ?yR0 ?rR0
              case yR0 => (intro wz hz; have z1 := hz.1; have z2 := hz.2; go_simp; try with_reducible rfl)
              (try simp only [Act.put, List.setIfInBounds_toArray, List.set_cons_zero, List.set_cons_succ])
              refine PlanT.take0 (v := .bool false) (by kernel_rfl) ?yR1 ?rR1
              case yR1 => (intro wz hz; have z1 := hz.1; have z2 := hz.2; go_simp; try with_reducible rfl)
              (try simp only [Act.put, List.setIfInBounds_toArray, List.set_cons_zero, List.set_cons_succ])
              refine PlanT.take0 (v := .bool false) (by kernel_rfl) ?yR2 ?rR2
              case yR2 => (intro wz hz; have z1 := hz.1; have z2 := hz.2; go_simp; try with_reducible rfl)
              (try simp only [Act.put, List.setIfInBounds_toArray, List.set_cons_zero, List.set_cons_succ])
              refine PlanT.take0 (v := ?vR3) (by kernel_rfl) ?yR3 ?rR3
              case yR3 => (intro wz hz; have z1 := hz.1; have z2 := hz.2; go_simp; try with_reducible rfl)
              (try simp only [Act.put, List.setIfInBounds_toArray, List.set_cons_zero, List.set_cons_succ])
              refine PlanT.take0 (v := ?vR4) (by kernel_rfl) ?yR4 ?rR4
              case yR4 => (intro wz hz; have z1 := hz.1; have z2 := hz.2; go_simp; try with_reducible rfl)
              (try simp only [Act.put, List.setIfInBounds_toArray, List.set_cons_zero, List.set_cons_succ])
              refine PlanT.exec2 (fun K hK => ⟨by kernel_rfl, ?_⟩)
              go_simp
              refine (HRI.out _ HOB5.out.ents).mono ?_
              rintro e u6 ⟨rfl, hb6⟩
              have HOB6 := Lib.hid (HOB5.out.call hb6)
              skip
              clear hb6
              refine hK.out _ _ ⟨HOB6.out.cell 1, HOB6.out.cell 2⟩ trivial ?_
              clear hK K
              (try simp only [Act.put, List.setIfInBounds_toArray, List.set_cons_zero, List.set_cons_succ])
              refine PlanT.take0 (v := .bool true) (by kernel_rfl) ?yR6 ?rR6
              case yR6 => (intro wz hz; have z1 := hz.1; have z2 := hz.2; go_simp; try with_reducible rfl)
              (try simp only [Act.put, List.setIfInBounds_toArray, List.set_cons_zero, List.set_cons_succ])
              refine PlanT.take0 (v := .bool true) (by kernel_rfl) ?yR7 ?rR7
              case yR7 => (intro wz hz; have z1 := hz.1; have z2 := hz.2; go_simp; try with_reducible rfl)
              (try simp only [Act.put, List.setIfInBounds_toArray, List.set_cons_zero, List.set_cons_succ])
              refine PlanT.take0 (v := .bool true) (by kernel_rfl) ?yR8 ?rR8
              case yR8 => (intro wz hz; have z1 := hz.1; have z2 := hz.2; go_simp; try with_reducible rfl)
              (try simp only [Act.put, List.setIfInBounds_toArray, List.set_cons_zero, List.set_cons_succ])
              refine PlanT.skip (by kernel_rfl) ?_
              (try simp only [Act.put, List.setIfInBounds_toArray, List.set_cons_zero, List.set_cons_succ])
              refine PlanT.skip (by kernel_rfl) ?_
              (try simp only [Act.put, List.setIfInBounds_toArray, List.set_cons_zero, List.set_cons_succ])
              refine PlanT.skip (by kernel_rfl) ?_
              (try simp only [Act.put, List.setIfInBounds_toArray, List.set_cons_zero, List.set_cons_succ])
              refine PlanT.skip (by kernel_rfl) ?_
              (try simp only [Act.put, List.setIfInBounds_toArray, List.set_cons_zero, List.set_cons_succ])
              refine PlanT.skip (by kernel_rfl) ?_
              (try simp only [Act.put, List.setIfInBounds_toArray, List.set_cons_zero, List.set_cons_succ])
              refine PlanT.skip (by kernel_rfl) ?_
              (try simp only [Act.put, List.setIfInBounds_toArray, List.set_cons_zero, List.set_cons_succ])
              refine PlanT.skip (by kernel_rfl) ?_
              (try simp only [Act.put, List.setIfInBounds_toArray, List.set_cons_zero, List.set_cons_succ])
              refine PlanT.skip (by kernel_rfl) ?_
              (try simp only [Act.put, List.setIfInBounds_toArray, List.set_cons_zero, List.set_cons_succ])
              refine PlanT.skip (by kernel_rfl) ?_
              (try simp only [Act.put, List.setIfInBounds_toArray, List.set_cons_zero, List.set_cons_succ])
              refine PlanT.skip (by kernel_rfl) ?_
              (try simp only [Act.put, List.setIfInBounds_toArray, List.set_cons_zero, List.set_cons_succ])
              refine PlanT.skip (by kernel_rfl) ?_
              (try simp only [Act.put, List.setIfInBounds_toArray, List.set_cons_zero, List.set_cons_succ])
              refine PlanT.skip (by kernel_rfl) ?_
              (try simp only [Act.put, List.setIfInBounds_toArray, List.set_cons_zero, List.set_cons_succ])
              refine PlanT.skip (by kernel_rfl) ?_
              (try simp only [Act.put, List.setIfInBounds_toArray, List.set_cons_zero, List.set_cons_succ])
              refine PlanT.take0 (v := ?vR22) (by kernel_rfl) ?yR22 ?rR22
              case yR22 => (intro wz hz; have z1 := hz.1; have z2 := hz.2; go_simp; try with_reducible rfl)
              (try simp only [Act.put, List.setIfInBounds_toArray, List.set_cons_zero, List.set_cons_succ])
              refine PlanT.done (NoPanic.normal ?_)
              obtain ⟨hrow, hbu⟩ := HPR.out _ HOB6.out.be
              have HBU := Lib.hid hbu
              clear hbu
              have s0 := blk_cell (i := 0) hrow
              have t0 := blk_free (i := 0) hrow
              have s1 := blk_cell (i := 1) hrow
              have t1 := blk_free (i := 1) hrow
              have s2 := blk_cell (i := 2) hrow
              have t2 := blk_free (i := 2) hrow
              have s3 := blk_cell (i := 3) hrow
              have t3 := blk_free (i := 3) hrow
              simp only [List.getElem?_toArray, List.getElem?_cons_zero, List.getElem?_cons_succ] at s0 s1 s2 s3
              have HROW := Lib.hid hrow
              clear hrow
              go_wp2
              refine bodyPost_ret (results_row_tmp rfl _ _ w.heap.size 68 #[.int .i64 0, .slice none 0 0, .slice none 0 0, .slice none 0 0] (0, 0) _ rfl ?hgE Tryz.underlying68 rfl (by kernel_rfl)) rfl ?_
              case hgE => exact (set4 HROW.out rfl rfl rfl rfl).1
              unfold RetOpen
              rw [HNO.out]
              exact ⟨rfl, (set4 HROW.out rfl rfl rfl rfl).2 _ (Nat.le_refl _) _ (HBU.out)⟩
            | true =>
              have HRT := Lib.hid hr
              have HRI : Hid (∀ wz, OwnE wz (w.heap.size + 1) (.slice ea FL.length ec) FL → Calls Tryz.prog 18 #[.slice ea FL.length ec] wz fun e w' => e = .returned (.bool true) ∧ Below wz.heap.size wz w') := Lib.hid fun wz h => by
                have h := HRI0 _ wz _ h HFF.out
                rw [hr] at h
                exact h
              clear hr HRI0
              cases he : decide (b.drop M = endB (rowsQ ps) ((tabQ ps).length : Int) (M : Int) (FL.length : Int)) with
              | false =>
                have HNO : Hid (getT b = none) := Lib.hid (getT_none fun es f ⟨per, h⟩ => by
                  have := (HEND.out es f per h).2.2.2.2
                  exact of_decide_eq_false he this)
                rw [he] at HEQ
                clear he
                go_upto_region 11 with (go_at_call 66; (refine (HG.out _ HOB.out.be).mono ?_); rintro e u5 ⟨y5, rfl, ho5, hb5⟩; have HOB5 := Lib.hid ((HOB.out.call hb5).call (Below.refl _ _).drew); clear hb5 ho5)
                refine wp_region_two (fun wz => wz.cell? ⟨w.heap.size + 1, 1, none⟩ = some (.slice ea FL.length ec) ∧ wz.cell? ⟨w.heap.size + 1, 2, none⟩ = some (.slice ra (rowsQ ps).length rc)) (fun _ => True) [(0, 0), (0, 1), (0, 2), (0, 3), (0, 4), (2, 5), (0, 6), (0, 7), (0, 8), (0, 9), (0, 10), (0, 11), (0, 12), (0, 13), (0, 14), (0, 15), (0, 16), (0, 17), (0, 18), (2, 19), (2, 20), (0, 21), (0, 22)] [] (by kernel_rfl) (by kernel_rfl) (by kernel_rfl) (by kernel_rfl) (by kernel_rfl) ⟨HOB5.out.cell 1, HOB5.out.cell 2⟩ trivial ?_
                simp only [planT, List.drop_succ_cons, List.drop_zero]
                refine PlanT.take0 (v := ?vS0) (by kernel_rfl) ?yS0 ?rS0
                case yS0 => (intro wz hz; have z1 := hz.1; have z2 := hz.2; go_simp; try with_reducible rfl)
                (try simp only [Act.put, List.setIfInBounds_toArray, List.set_cons_zero, List.set_cons_succ])
                refine PlanT.take0 (v := .bool false) (by kernel_rfl) ?yS1 ?rS1
                case yS1 => (intro wz hz; have z1 := hz.1; have z2 := hz.2; go_simp; try with_reducible rfl)
                (try simp only [Act.put, List.setIfInBounds_toArray, List.set_cons_zero, List.set_cons_succ])
                refine PlanT.take0 (v := .bool false) (by kernel_rfl) ?yS2 ?rS2
                case yS2 => (intro wz hz; have z1 := hz.1; have z2 := hz.2; go_simp; try with_reducible rfl)
                (try simp only [Act.put, List.setIfInBounds_toArray, List.set_cons_zero, List.set_cons_succ])
                refine PlanT.take0 (v := ?vS3) (by kernel_rfl) ?yS3 ?rS3
                case yS3 => (intro wz hz; have z1 := hz.1; have z2 := hz.2; go_simp; try with_reducible rfl)
                (try simp only [Act.put, List.setIfInBounds_toArray, List.set_cons_zero, List.set_cons_succ])
                refine PlanT.take0 (v := ?vS4) (by kernel_rfl) ?yS4 ?rS4
                case yS4 => (intro wz hz; have z1 := hz.1; have z2 := hz.2; go_simp; try with_reducible rfl)
                (try simp only [Act.put, List.setIfInBounds_toArray, List.set_cons_zero, List.set_cons_succ])
                refine PlanT.exec2 (fun K hK => ⟨by kernel_rfl, ?_⟩)
                go_simp
                refine (HRI.out _ HOB5.out.ents).mono ?_
                rintro e u6 ⟨rfl, hb6⟩
                have HOB6 := Lib.hid (HOB5.out.call hb6)
                skip
                clear hb6
                refine hK.out _ _ ⟨HOB6.out.cell 1, HOB6.out.cell 2⟩ trivial ?_
                clear hK K
                (try simp only [Act.put, List.setIfInBounds_toArray, List.set_cons_zero, List.set_cons_succ])
                refine PlanT.take0 (v := .bool false) (by kernel_rfl) ?yS6 ?rS6
                case yS6 => (intro wz hz; have z1 := hz.1; have z2 := hz.2; go_simp; try with_reducible rfl)
                (try simp only [Act.put, List.setIfInBounds_toArray, List.set_cons_zero, List.set_cons_succ])
                refine PlanT.take0 (v := .bool false) (by kernel_rfl) ?yS7 ?rS7
                case yS7 => (intro wz hz; have z1 := hz.1; have z2 := hz.2; go_simp; try with_reducible rfl)
                (try simp only [Act.put, List.setIfInBounds_toArray, List.set_cons_zero, List.set_cons_succ])
                refine PlanT.take0 (v := .bool false) (by kernel_rfl) ?yS8 ?rS8
                case yS8 => (intro wz hz; have z1 := hz.1; have z2 := hz.2; go_simp; try with_reducible rfl)
                (try simp only [Act.put, List.setIfInBounds_toArray, List.set_cons_zero, List.set_cons_succ])
                refine PlanT.take0 (v := ?vS9) (by kernel_rfl) ?yS9 ?rS9
                case yS9 => (intro wz hz; have z1 := hz.1; have z2 := hz.2; go_simp; try with_reducible rfl)
                (try simp only [Act.put, List.setIfInBounds_toArray, List.set_cons_zero, List.set_cons_succ])
                refine PlanT.take0 (v := ?vS10) (by kernel_rfl) ?yS10 ?rS10
                case yS10 => (intro wz hz; have z1 := hz.1; have z2 := hz.2; go_simp; try with_reducible rfl)
                (try simp only [Act.put, List.setIfInBounds_toArray, List.set_cons_zero, List.set_cons_succ])
                refine PlanT.take0 (v := .slice sv (b.length - M) (vc - M)) (by kernel_rfl) ?yS11 ?rS11
                case yS11 => (intro wz hz; have z1 := hz.1; have z2 := hz.2; rw [HSV.out]; go_simp; try with_reducible rfl)
                (try simp only [Act.put, List.setIfInBounds_toArray, List.set_cons_zero, List.set_cons_succ])
                refine PlanT.take0 (v := ?vS12) (by kernel_rfl) ?yS12 ?rS12
                case yS12 => (intro wz hz; have z1 := hz.1; have z2 := hz.2; go_simp; try with_reducible rfl)
                (try simp only [Act.put, List.setIfInBounds_toArray, List.set_cons_zero, List.set_cons_succ])
                refine PlanT.take0 (v := ?vS13) (by kernel_rfl) ?yS13 ?rS13
                case yS13 => (intro wz hz; have z1 := hz.1; have z2 := hz.2; go_simp; try with_reducible rfl)
                (try simp only [Act.put, List.setIfInBounds_toArray, List.set_cons_zero, List.set_cons_succ])
                refine PlanT.take0 (v := ?vS14) (by kernel_rfl) ?yS14 ?rS14
                case yS14 => (intro wz hz; have z1 := hz.1; have z2 := hz.2; go_simp; try with_reducible rfl)
                (try simp only [Act.put, List.setIfInBounds_toArray, List.set_cons_zero, List.set_cons_succ])
                refine PlanT.take0 (v := ?vS15) (by kernel_rfl) ?yS15 ?rS15
                case yS15 => (intro wz hz; have z1 := hz.1; have z2 := hz.2; go_simp; try with_reducible rfl)
                (try simp only [Act.put, List.setIfInBounds_toArray, List.set_cons_zero, List.set_cons_succ])
                refine PlanT.take0 (v := ?vS16) (by kernel_rfl) ?yS16 ?rS16
                case yS16 => (intro wz hz; have z1 := hz.1; have z2 := hz.2; go_simp; try with_reducible rfl)
                (try simp only [Act.put, List.setIfInBounds_toArray, List.set_cons_zero, List.set_cons_succ])
                refine PlanT.take0 (v := ?vS17) (by kernel_rfl) ?yS17 ?rS17
                case yS17 => (intro wz hz; have z1 := hz.1; have z2 := hz.2; go_simp; try with_reducible rfl)
                (try simp only [Act.put, List.setIfInBounds_toArray, List.set_cons_zero, List.set_cons_succ])
                refine PlanT.take0 (v := ?vS18) (by kernel_rfl) ?yS18 ?rS18
                case yS18 => (intro wz hz; have z1 := hz.1; have z2 := hz.2; go_simp; try with_reducible rfl)
                (try simp only [Act.put, List.setIfInBounds_toArray, List.set_cons_zero, List.set_cons_succ])
                refine PlanT.exec2 (fun K hK => ⟨by kernel_rfl, ?_⟩)
                go_simp
                refine (HPE.out _ _ HOB6.out.rows.read).mono ?_
                rintro e u7 ⟨y7, rfl, ho7, hb7⟩
                have HOB7 := Lib.hid (HOB6.out.call hb7)
                skip
                have HE7 := Lib.hid ho7.read
                clear ho7 hb7
                refine hK.out _ _ ⟨HOB7.out.cell 1, HOB7.out.cell 2⟩ trivial ?_
                clear hK K
                (try simp only [Act.put, List.setIfInBounds_toArray, List.set_cons_zero, List.set_cons_succ])
                refine PlanT.exec2 (fun K hK => ⟨by kernel_rfl, ?_⟩)
                go_simp
                refine (HEQ.out _ _ HOB7.out.be HE7.out).mono ?_
                rintro e u8 ⟨rfl, hb8⟩
                have HOB8 := Lib.hid (HOB7.out.call hb8)
                skip
                clear hb8
                refine hK.out _ _ ⟨HOB8.out.cell 1, HOB8.out.cell 2⟩ trivial ?_
                clear hK K
                (try simp only [Act.put, List.setIfInBounds_toArray, List.set_cons_zero, List.set_cons_succ])
                refine PlanT.take0 (v := ?vS21) (by kernel_rfl) ?yS21 ?rS21
                case yS21 => (intro wz hz; have z1 := hz.1; have z2 := hz.2; go_simp; try with_reducible rfl)
                (try simp only [Act.put, List.setIfInBounds_toArray, List.set_cons_zero, List.set_cons_succ])
                refine PlanT.take0 (v := ?vS22) (by kernel_rfl) ?yS22 ?rS22
                case yS22 => (intro wz hz; have z1 := hz.1; have z2 := hz.2; go_simp; try with_reducible rfl)
                (try simp only [Act.put, List.setIfInBounds_toArray, List.set_cons_zero, List.set_cons_succ])
                refine PlanT.done (NoPanic.normal ?_)
                obtain ⟨hrow, hbu⟩ := HPR.out _ HOB8.out.be
                have HBU := Lib.hid hbu
                clear hbu
                have s0 := blk_cell (i := 0) hrow
                have t0 := blk_free (i := 0) hrow
                have s1 := blk_cell (i := 1) hrow
                have t1 := blk_free (i := 1) hrow
                have s2 := blk_cell (i := 2) hrow
                have t2 := blk_free (i := 2) hrow
                have s3 := blk_cell (i := 3) hrow
                have t3 := blk_free (i := 3) hrow
                simp only [List.getElem?_toArray, List.getElem?_cons_zero, List.getElem?_cons_succ] at s0 s1 s2 s3
                have HROW := Lib.hid hrow
                clear hrow
                go_wp2
                refine bodyPost_ret (results_row_tmp rfl _ _ w.heap.size 68 #[.int .i64 0, .slice none 0 0, .slice none 0 0, .slice none 0 0] (0, 0) _ rfl ?hgF Tryz.underlying68 rfl (by kernel_rfl)) rfl ?_
                case hgF => exact (set4 HROW.out rfl rfl rfl rfl).1
                unfold RetOpen
                rw [HNO.out]
                exact ⟨rfl, (set4 HROW.out rfl rfl rfl rfl).2 _ (Nat.le_refl _) _ (HBU.out)⟩
              | true =>
                have HGT : Hid (getT b = some (FL, frP b (tabQ ps).length)) := Lib.hid (getT_some hl (HTAB.out HFO.out HRT.out (of_decide_eq_true he)))
                rw [he] at HEQ
                clear he
                go_upto_region 11 with (go_at_call 66; (refine (HG.out _ HOB.out.be).mono ?_); rintro e u5 ⟨y5, rfl, ho5, hb5⟩; (obtain ⟨ya5, yc5, hy5, _, _⟩ := ho5.read.form); subst hy5; have HOB5 := Lib.hid ((HOB.out.call hb5).call (Below.refl _ _).drew); have HY5 := Lib.hid (OwnB.below ho5 (Below.refl u5.heap.size u5).drew (Nat.le_refl _)); clear hb5 ho5)
                refine wp_region_two (fun wz => wz.cell? ⟨w.heap.size + 1, 1, none⟩ = some (.slice ea FL.length ec) ∧ wz.cell? ⟨w.heap.size + 1, 2, none⟩ = some (.slice ra (rowsQ ps).length rc)) (fun _ => True) [(0, 0), (0, 1), (0, 2), (0, 3), (0, 4), (2, 5), (0, 6), (0, 7), (0, 8), (0, 9), (0, 10), (0, 11), (0, 12), (0, 13), (0, 14), (0, 15), (0, 16), (0, 17), (0, 18), (2, 19), (2, 20), (0, 21), (0, 22)] [] (by kernel_rfl) (by kernel_rfl) (by kernel_rfl) (by kernel_rfl) (by kernel_rfl) ⟨HOB5.out.cell 1, HOB5.out.cell 2⟩ trivial ?_
                simp only [planT, List.drop_succ_cons, List.drop_zero]
                refine PlanT.take0 (v := ?vT0) (by kernel_rfl) ?yT0 ?rT0
                case yT0 => (intro wz hz; have z1 := hz.1; have z2 := hz.2; go_simp; try with_reducible rfl)
                (try simp only [Act.put, List.setIfInBounds_toArray, List.set_cons_zero, List.set_cons_succ])
                refine PlanT.take0 (v := .bool false) (by kernel_rfl) ?yT1 ?rT1
                case yT1 => (intro wz hz; have z1 := hz.1; have z2 := hz.2; go_simp; try with_reducible rfl)
                (try simp only [Act.put, List.setIfInBounds_toArray, List.set_cons_zero, List.set_cons_succ])
                refine PlanT.take0 (v := .bool false) (by kernel_rfl) ?yT2 ?rT2
                case yT2 => (intro wz hz; have z1 := hz.1; have z2 := hz.2; go_simp; try with_reducible rfl)
                (try simp only [Act.put, List.setIfInBounds_toArray, List.set_cons_zero, List.set_cons_succ])
                refine PlanT.take0 (v := ?vT3) (by kernel_rfl) ?yT3 ?rT3
                case yT3 => (intro wz hz; have z1 := hz.1; have z2 := hz.2; go_simp; try with_reducible rfl)
                (try simp only [Act.put, List.setIfInBounds_toArray, List.set_cons_zero, List.set_cons_succ])
                refine PlanT.take0 (v := ?vT4) (by kernel_rfl) ?yT4 ?rT4
                case yT4 => (intro wz hz; have z1 := hz.1; have z2 := hz.2; go_simp; try with_reducible rfl)
                (try simp only [Act.put, List.setIfInBounds_toArray, List.set_cons_zero, List.set_cons_succ])
                refine PlanT.exec2 (fun K hK => ⟨by kernel_rfl, ?_⟩)
                go_simp
                refine (HRI.out _ HOB5.out.ents).mono ?_
                rintro e u6 ⟨rfl, hb6⟩
                have HOB6 := Lib.hid (HOB5.out.call hb6)
                have HY6 := Lib.hid (OwnB.below HY5.out hb6 (Nat.le_refl _))
                clear hb6
                refine hK.out _ _ ⟨HOB6.out.cell 1, HOB6.out.cell 2⟩ trivial ?_
                clear hK K
                (try simp only [Act.put, List.setIfInBounds_toArray, List.set_cons_zero, List.set_cons_succ])
                refine PlanT.take0 (v := .bool false) (by kernel_rfl) ?yT6 ?rT6
                case yT6 => (intro wz hz; have z1 := hz.1; have z2 := hz.2; go_simp; try with_reducible rfl)
                (try simp only [Act.put, List.setIfInBounds_toArray, List.set_cons_zero, List.set_cons_succ])
                refine PlanT.take0 (v := .bool false) (by kernel_rfl) ?yT7 ?rT7
                case yT7 => (intro wz hz; have z1 := hz.1; have z2 := hz.2; go_simp; try with_reducible rfl)
                (try simp only [Act.put, List.setIfInBounds_toArray, List.set_cons_zero, List.set_cons_succ])
                refine PlanT.take0 (v := .bool false) (by kernel_rfl) ?yT8 ?rT8
                case yT8 => (intro wz hz; have z1 := hz.1; have z2 := hz.2; go_simp; try with_reducible rfl)
                (try simp only [Act.put, List.setIfInBounds_toArray, List.set_cons_zero, List.set_cons_succ])
                refine PlanT.take0 (v := ?vT9) (by kernel_rfl) ?yT9 ?rT9
                case yT9 => (intro wz hz; have z1 := hz.1; have z2 := hz.2; go_simp; try with_reducible rfl)
                (try simp only [Act.put, List.setIfInBounds_toArray, List.set_cons_zero, List.set_cons_succ])
                refine PlanT.take0 (v := ?vT10) (by kernel_rfl) ?yT10 ?rT10
                case yT10 => (intro wz hz; have z1 := hz.1; have z2 := hz.2; go_simp; try with_reducible rfl)
                (try simp only [Act.put, List.setIfInBounds_toArray, List.set_cons_zero, List.set_cons_succ])
                refine PlanT.take0 (v := .slice sv (b.length - M) (vc - M)) (by kernel_rfl) ?yT11 ?rT11
                case yT11 => (intro wz hz; have z1 := hz.1; have z2 := hz.2; rw [HSV.out]; go_simp; try with_reducible rfl)
                (try simp only [Act.put, List.setIfInBounds_toArray, List.set_cons_zero, List.set_cons_succ])
                refine PlanT.take0 (v := ?vT12) (by kernel_rfl) ?yT12 ?rT12
                case yT12 => (intro wz hz; have z1 := hz.1; have z2 := hz.2; go_simp; try with_reducible rfl)
                (try simp only [Act.put, List.setIfInBounds_toArray, List.set_cons_zero, List.set_cons_succ])
                refine PlanT.take0 (v := ?vT13) (by kernel_rfl) ?yT13 ?rT13
                case yT13 => (intro wz hz; have z1 := hz.1; have z2 := hz.2; go_simp; try with_reducible rfl)
                (try simp only [Act.put, List.setIfInBounds_toArray, List.set_cons_zero, List.set_cons_succ])
                refine PlanT.take0 (v := ?vT14) (by kernel_rfl) ?yT14 ?rT14
                case yT14 => (intro wz hz; have z1 := hz.1; have z2 := hz.2; go_simp; try with_reducible rfl)
                (try simp only [Act.put, List.setIfInBounds_toArray, List.set_cons_zero, List.set_cons_succ])
                refine PlanT.take0 (v := ?vT15) (by kernel_rfl) ?yT15 ?rT15
                case yT15 => (intro wz hz; have z1 := hz.1; have z2 := hz.2; go_simp; try with_reducible rfl)
                (try simp only [Act.put, List.setIfInBounds_toArray, List.set_cons_zero, List.set_cons_succ])
                refine PlanT.take0 (v := ?vT16) (by kernel_rfl) ?yT16 ?rT16
                case yT16 => (intro wz hz; have z1 := hz.1; have z2 := hz.2; go_simp; try with_reducible rfl)
                (try simp only [Act.put, List.setIfInBounds_toArray, List.set_cons_zero, List.set_cons_succ])
                refine PlanT.take0 (v := ?vT17) (by kernel_rfl) ?yT17 ?rT17
                case yT17 => (intro wz hz; have z1 := hz.1; have z2 := hz.2; go_simp; try with_reducible rfl)
                (try simp only [Act.put, List.setIfInBounds_toArray, List.set_cons_zero, List.set_cons_succ])
                refine PlanT.take0 (v := ?vT18) (by kernel_rfl) ?yT18 ?rT18
                case yT18 => (intro wz hz; have z1 := hz.1; have z2 := hz.2; go_simp; try with_reducible rfl)
                (try simp only [Act.put, List.setIfInBounds_toArray, List.set_cons_zero, List.set_cons_succ])
                refine PlanT.exec2 (fun K hK => ⟨by kernel_rfl, ?_⟩)
                go_simp
                refine (HPE.out _ _ HOB6.out.rows.read).mono ?_
                rintro e u7 ⟨y7, rfl, ho7, hb7⟩
                have HOB7 := Lib.hid (HOB6.out.call hb7)
                have HY7 := Lib.hid (OwnB.below HY6.out hb7 (Nat.le_refl _))
                have HE7 := Lib.hid ho7.read
                clear ho7 hb7
                refine hK.out _ _ ⟨HOB7.out.cell 1, HOB7.out.cell 2⟩ trivial ?_
                clear hK K
                (try simp only [Act.put, List.setIfInBounds_toArray, List.set_cons_zero, List.set_cons_succ])
                refine PlanT.exec2 (fun K hK => ⟨by kernel_rfl, ?_⟩)
                go_simp
                refine (HEQ.out _ _ HOB7.out.be HE7.out).mono ?_
                rintro e u8 ⟨rfl, hb8⟩
                have HOB8 := Lib.hid (HOB7.out.call hb8)
                have HY8 := Lib.hid (OwnB.below HY7.out hb8 (Nat.le_refl _))
                clear hb8
                refine hK.out _ _ ⟨HOB8.out.cell 1, HOB8.out.cell 2⟩ trivial ?_
                clear hK K
                (try simp only [Act.put, List.setIfInBounds_toArray, List.set_cons_zero, List.set_cons_succ])
                refine PlanT.take0 (v := ?vT21) (by kernel_rfl) ?yT21 ?rT21
                case yT21 => (intro wz hz; have z1 := hz.1; have z2 := hz.2; go_simp; try with_reducible rfl)
                (try simp only [Act.put, List.setIfInBounds_toArray, List.set_cons_zero, List.set_cons_succ])
                refine PlanT.take0 (v := ?vT22) (by kernel_rfl) ?yT22 ?rT22
                case yT22 => (intro wz hz; have z1 := hz.1; have z2 := hz.2; go_simp; try with_reducible rfl)
                (try simp only [Act.put, List.setIfInBounds_toArray, List.set_cons_zero, List.set_cons_succ])
                refine PlanT.done (NoPanic.normal ?_)
                have hOS := OB.store (i := 3) (u := .slice ya5 (frP b (tabQ ps).length).length yc5) (per' := firstN ps) (vf' := .slice ya5 (frP b (tabQ ps).length).length yc5) HOB8.out (by rfl)
                have w0 := HOB8.out.cell 0
                have w1 := HOB8.out.cell 1
                have w2 := HOB8.out.cell 2
                have z3 := HOB8.out.cell 3
                have y3 := HOB8.out.free 3
                simp only [List.getElem?_toArray, List.getElem?_cons_zero, List.getElem?_cons_succ] at z3 w0 w1 w2
                obtain ⟨hrow, hbu⟩ := HPR.out _ HOB8.out.be
                clear hbu
                have s0 := blk_cell (i := 0) hrow
                have t0 := blk_free (i := 0) hrow
                have s1 := blk_cell (i := 1) hrow
                have t1 := blk_free (i := 1) hrow
                have s2 := blk_cell (i := 2) hrow
                have t2 := blk_free (i := 2) hrow
                have s3 := blk_cell (i := 3) hrow
                have t3 := blk_free (i := 3) hrow
                simp only [List.getElem?_toArray, List.getElem?_cons_zero, List.getElem?_cons_succ] at s0 s1 s2 s3
                have HROW := Lib.hid hrow
                clear hrow
                obtain ⟨hrow, hbu⟩ := HPR.out _ hOS.be
                have HROW9 := Lib.hid hrow
                have HBU := Lib.hid hbu
                have HOS := Lib.hid hOS
                have HY9 := Lib.hid (row_set (i := 3) (u := .slice ya5 (frP b (tabQ ps).length).length yc5) HY8.out (by have := blk_lt HOB.out.box; omega))
                clear hOS hrow hbu
                go_wp2
                refine bodyPost_ret (results_row_tmp rfl _ _ w.heap.size 68 #[.int .i64 (firstN ps : Int), .slice ea FL.length ec, .slice ra (rowsQ ps).length rc, .slice ya5 (frP b (tabQ ps).length).length yc5] (0, 0) _ rfl ?hgG Tryz.underlying68 rfl (by kernel_rfl)) rfl ?_
                case hgG => exact (set4 HROW9.out rfl rfl rfl rfl).1
                have hp : w.heap.size < w.heap.size + 1 := by omega
                have hp2 : w.heap.size < wr.heap.size := by have := blk_lt HOB.out.box; omega
                exact HFIN.out _ HGT.out _ _ _ _ (own_monoE (row_set (row_set (row_set (row_set HOS.out.ents hp) hp) hp) hp) (by omega)) (own_monoR (row_set (row_set (row_set (row_set HOS.out.rows hp) hp) hp) hp) (by omega)) (OwnB.mono_B (row_set (row_set (row_set (row_set HY9.out hp2) hp2) hp2) hp2) (by omega)) ((set4 HROW9.out rfl rfl rfl rfl).2 _ (Nat.le_refl _) _ HBU.out)
end Go.Proofs.YteeikmpfgbfeoaaGreat

/-
  Tables: All: the entries of a table.
-/
namespace Go.Proofs.YteeikmpfgbfeoaaGreat
open Go.RowKit

set_option maxRecDepth 100000 in
set_option maxHeartbeats 400000 in
theorem all_any : AllTC := fun v b w hv hl => by
  cases hg : getT b with
  | none =>
    have HO : Hid (Calls Tryz.prog 30 #[v] w fun e w' => e = .returned (.tuple #[.agg #[.int .i64 0, .slice none 0 0, .slice none 0 0, .slice none 0 0], .bool false]) ∧ Below w.heap.size w w') := Lib.hid (by
      have h := open_any v b w hv hl
      unfold RetOpen at h
      rw [hg] at h
      exact h)
    have HR : Hid (∀ w', Below w.heap.size w w' → RetAllT w b (.returned (.tuple #[.slice none 0 0, .int .i64 5])) w') := Lib.hid fun w' hb => by
      refine ⟨.slice none 0 0, by unfold errT; rw [hg]; rfl, ?_, hb⟩
      unfold entsT
      rw [hg]
      exact World.ownsRow_nil _ _ _ _
    clear hg hv
    go_enter Tryz.func9, Tryz.ntmps9
    go_wp2_with (go_at_call 30; (refine HO.out.mono ?_); rintro e w1 ⟨rfl, hb1⟩; have HB1 := Lib.hid hb1; clear hb1)
    go_ret2
    exact HR.out _ (HB1.out.alloc HB1.out.size _)
  | some x =>
    obtain ⟨es, f⟩ := x
    have HO : Hid (Calls Tryz.prog 30 #[v] w fun e w' => ∃ (rs : List Rw) (per : Nat) (ve vr vf : Value), e = .returned (.tuple #[.agg #[.int .i64 (per : Int), ve, vr, vf], .bool true]) ∧ OwnE w' w.heap.size ve es ∧ OwnR w' w.heap.size vr rs ∧ OwnB w' w.heap.size 5 vf f ∧ Below w.heap.size w w') := Lib.hid (by
      have h := open_any v b w hv hl
      unfold RetOpen at h
      rw [hg] at h
      refine h.mono ?_
      rintro e w' ⟨ps, per, ve, vr, vf, rfl, h1, h2, h3, _, _, _, h4⟩
      exact ⟨_, per, ve, vr, vf, rfl, h1, h2, h3, h4⟩)
    have HR : Hid (∀ w' x, OwnE w' w.heap.size x es → Below w.heap.size w w' → RetAllT w b (.returned (.tuple #[x, .int .i64 0])) w') := Lib.hid fun w' x ho hb => by
      refine ⟨x, by unfold errT; rw [hg]; rfl, ?_, hb⟩
      unfold entsT
      rw [hg]
      exact ho
    clear hg hv
    go_enter Tryz.func9, Tryz.ntmps9
    go_wp2_with (go_at_call 30; (refine HO.out.mono ?_); rintro e w1 ⟨rs, per, ve, vr, vf, rfl, ho1, hr1, hf1, hb1⟩; (obtain ⟨ea, ec, hve, _, _⟩ := ho1.form); subst hve; (obtain ⟨ra, rc, hvr, _, _⟩ := hr1.form); subst hvr; (obtain ⟨fa, fc, hvf, _, _⟩ := hf1.read.form); subst hvf; have HB1 := Lib.hid hb1; have HO1 := Lib.hid ho1; clear hb1 ho1 hr1 hf1)
    go_ret2
    exact HR.out _ _ (OwnE.below HO1.out ((Below.refl _ _).alloc (Nat.le_refl _) _)) (HB1.out.alloc HB1.out.size _)
end Go.Proofs.YteeikmpfgbfeoaaGreat

/-
  Blocks: where Seek begins: the last whole key that is below, or the first one.
-/
namespace Go.Proofs.YteeikmpfgbfeoaaGreat
open Go.RowKit

theorem tail_at (es : List Ent) : ∀ (n i : Nat), 4 * i < n → ((tailN es n).drop (4 * i)).take 4 = fixL (((bodyN es (4 * i)).length : Nat) : Int) 4
  | 0, i, h => by omega
  | n + 1, i, h => by
    unfold tailN
    have hl := tailN_len es n
    rcases Nat.lt_or_ge (4 * i) n with h1 | h1
    · rw [List.drop_append_of_le_length (by omega), List.take_append_of_le_length (by rw [List.length_drop]; omega)]
      exact tail_at es n i h1
    · obtain rfl : n = 4 * i := by omega
      rw [if_pos (by omega), List.drop_left' (by rw [hl]; omega), List.take_of_length_le (by rw [fixL_length]; exact Nat.le_refl _)]

theorem up_at {es : List Ent} (h : risingB es = true) : ∀ {a b : Nat}, a < b → b < es.length → (es.getD a Ent.none_).cmp (es.getD b Ent.none_) < 0
  | a, 0, h1, _ => by omega
  | a, b + 1, h1, h2 => by
    have hg : goodAt es (b + 1) = true := by
      unfold risingB at h
      rw [List.all_eq_true] at h
      exact h (b + 1) (List.mem_range.2 h2)
    unfold goodAt at hg
    have hs : (es.getD b Ent.none_).cmp (es.getD (b + 1) Ent.none_) < 0 := by
      rw [Bool.and_eq_true] at hg
      simpa using hg.2
    rcases Nat.lt_or_ge a b with h3 | h3
    · exact cmp_trans (up_at h h3 (by omega)) hs
    · obtain rfl : a = b := by omega
      exact hs

theorem read_at {es : List Ent} (hm : ∀ k, k < es.length → (es.getD k Ent.none_).may = true) {k : Nat} (hk : k < es.length) : readP (bodyN es es.length) (prevU es k) (bodyN es k).length = some (es.getD k Ent.none_, (bodyN es (k + 1)).length) :=
  step_read ((⟨rfl, hm⟩ : IsBody (bodyN es es.length) es).step hk) (hm k hk)

/-- A whole one is read without the one ahead. -/
theorem read_whole {es : List Ent} (hm : ∀ k, k < es.length → (es.getD k Ent.none_).may = true) {k : Nat} (hk : 4 * k < es.length) : readP (bodyN es es.length) [] (bodyN es (4 * k)).length = some (es.getD (4 * k) Ent.none_, (bodyN es (4 * k + 1)).length) := by
  have h := (⟨rfl, hm⟩ : IsBody (bodyN es es.length) es).step hk
  refine step_read ?_ (hm _ hk)
  obtain ⟨r, hr⟩ := bodyN_split es (k := 4 * k + 1) (n := es.length) hk
  have hs : shE es (4 * k) = 0 := by unfold shE; rw [if_pos (by omega)]
  have hb : bodyN es (4 * k + 1) = bodyN es (4 * k) ++ (putL 0 ++ (putT (uL (es.getD (4 * k) Ent.none_)) ++ putL (numE (es.getD (4 * k) Ent.none_)) ++ putT (vL (es.getD (4 * k) Ent.none_)))) := by
    show bodyN es (4 * k) ++ entB _ _ = _
    rw [hs]
    unfold entB
    simp only [List.drop_zero, List.append_assoc]
  have hg := getAt_tells (bodyN es (4 * k)) ((putT (uL (es.getD (4 * k) Ent.none_)) ++ putL (numE (es.getD (4 * k) Ent.none_)) ++ putT (vL (es.getD (4 * k) Ent.none_))) ++ r) 0 (by omega)
  have hc : bodyN es es.length = bodyN es (4 * k) ++ putL 0 ++ ((putT (uL (es.getD (4 * k) Ent.none_)) ++ putL (numE (es.getD (4 * k) Ent.none_)) ++ putT (vL (es.getD (4 * k) Ent.none_))) ++ r) := by
    rw [hr, hb]
    simp only [List.append_assoc]
  rw [← hc] at hg
  unfold stepP at h ⊢
  rw [hg] at h ⊢
  simp only [List.take_zero, List.nil_append, Nat.not_lt_zero, if_false] at h ⊢
  exact h

theorem alloc_keep {w : World} {o x : Obj} {k : Nat} (h : w.heap[k]? = some x) : (w.alloc o).heap[k]? = some x := (Below.block ((Below.refl _ _).alloc (Nat.le_refl _) _) _ (blk_lt h)).trans h
theorem heap_new3 (w : World) (o1 o2 o3 : Obj) : (((w.alloc o1).alloc o2).alloc o3).heap[w.heap.size + 1 + 1]? = some o3 := by simpa using heap_alloc_new ((w.alloc o1).alloc o2) o3
theorem heap_new4 (w : World) (o1 o2 o3 o4 : Obj) : ((((w.alloc o1).alloc o2).alloc o3).alloc o4).heap[w.heap.size + 1 + 1 + 1]? = some o4 := by simpa using heap_alloc_new (((w.alloc o1).alloc o2).alloc o3) o4

set_option maxRecDepth 100000 in
set_option maxHeartbeats 400000 in
theorem start_any {es : List Ent} (hr : risingB es = true) (h1 : 1 ≤ es.length) (h64 : es.length ≤ 64) (x y : Value) (u : ByteArray) (s k : Int) (w : World) (hu : u.size ≤ maxLen) (hx : RdB w x (bodyN es es.length)) (hy : RdB w y (tailN es es.length)) :
    Calls Tryz.prog 93 #[x, y, .agg #[.string u, .int .i64 s, .int .i64 k]] w fun e w' => ∃ j : Nat, 4 * j < es.length ∧ e = .returned (.int .i64 ((bodyN es (4 * j)).length : Int)) ∧ (∀ a, a < 4 * j → (es.getD a Ent.none_).cmp ⟨u, s, k, ⟨#[]⟩⟩ < 0) ∧ Below w.heap.size w w' := by
  have hm := fun k (hk : k < es.length) => rising_may hr hk
  have hbl := bodyN_len hm
  have HPL : Hid (∀ i, 4 * i < es.length → valL (((tailN es es.length).drop (4 * i)).take 4) = (bodyN es (4 * i)).length) := Lib.hid fun i hi => by
    rw [tail_at es es.length i hi, valL_fixL _ _ (by have := hbl (4 * i) (by omega); omega)]
  have HRW : Hid (∀ i, 4 * i < es.length → readP (bodyN es es.length) [] (bodyN es (4 * i)).length = some (es.getD (4 * i) Ent.none_, (bodyN es (4 * i + 1)).length)) := Lib.hid fun i hi => read_whole hm hi
  have HUP : Hid (∀ a b, a < b → b < es.length → (es.getD a Ent.none_).cmp (es.getD b Ent.none_) < 0) := Lib.hid fun a b => up_at hr
  have HSU : Hid (∀ k, k < es.length → (es.getD k Ent.none_).u.size ≤ maxLen) := Lib.hid fun k hk => by
    have := (may_facts (hm k hk)).1
    rw [size_list] at this
    unfold maxLen
    omega
  obtain ⟨N, hN⟩ : ∃ N, N = (es.length + 3) / 4 := ⟨_, rfl⟩
  have htl : (tailN es es.length).length = 4 * N := by rw [tailN_len, hN]
  have HN : Hid (∀ i, i < N → 4 * i < es.length) := Lib.hid fun i hi => by omega
  have hN1 : 1 ≤ N := by omega
  have hN2 : N ≤ 100 := by omega
  obtain ⟨xa, xc, rfl, _, _⟩ := hx.form
  obtain ⟨ya, yc, rfl, _, _⟩ := hy.form
  have HX := Lib.hid hx
  have HY := Lib.hid hy
  have HT := Lib.hid htl
  have hdv : wrap64 (((tailN es es.length).length : Int) / 4) = (N : Int) := by rw [IntWalk.wrap64_in _ (by omega)]; omega
  clear hx hy hbl hN htl h1 h64
  generalize tailN es es.length = t at *
  generalize bodyN es es.length = c at *
  obtain ⟨bl, hbl⟩ : ∃ bl : Nat → Nat, bl = fun i => (bodyN es i).length := ⟨_, rfl⟩
  have HBE : Hid (∀ i, (bodyN es i).length = bl i) := Lib.hid fun i => by rw [hbl]
  clear hbl
  simp only [HBE.out] at HPL HRW ⊢
  go_enter Tryz.func93, Tryz.ntmps93
  go_upto_region 2 with (fail)
  obtain ⟨w1, hw1⟩ : ∃ w1, w1 = ((((w.alloc (.cells #[.slice xa c.length xc] 24)).alloc (.cells #[.slice ya t.length yc] 24)).alloc (.cells #[.string u, .int .i64 s, .int .i64 k] 37)).alloc (.cells #[.func (.func 102) #[] #[.pointer (some ⟨w.heap.size + 1, 0, none⟩)]] 136)) := ⟨_, rfl⟩
  rw [← hw1]
  have hB1 : Below w.heap.size w w1 := by rw [hw1]; exact (((Below.refl _ _).alloc (Nat.le_refl _) _).alloc (by simp) _).alloc (by simp; omega) _ |>.alloc (by simp; omega) _
  have b0 : w1.heap[w.heap.size]? = some (.cells #[.slice xa c.length xc] 24 (0, 0)) := by rw [hw1]; exact alloc_keep (alloc_keep (alloc_keep (heap_alloc_new w _)))
  have b1 : w1.heap[w.heap.size + 1]? = some (.cells #[.slice ya t.length yc] 24 (0, 0)) := by rw [hw1]; exact alloc_keep (alloc_keep (heap_new2 w _ _))
  have b2 : w1.heap[w.heap.size + 1 + 1]? = some (.cells #[.string u, .int .i64 s, .int .i64 k] 37 (0, 0)) := by rw [hw1]; exact alloc_keep (heap_new3 w _ _ _)
  have b3 : w1.heap[w.heap.size + 1 + 1 + 1]? = some (.cells #[.func (.func 102) #[] #[.pointer (some ⟨w.heap.size + 1, 0, none⟩)]] 136 (0, 0)) := by rw [hw1]; exact heap_new4 w _ _ _ _
  have B0 := Lib.hid b0
  have B1 := Lib.hid b1
  have B2 := Lib.hid b2
  have B3 := Lib.hid b3
  have HB1 := Lib.hid hB1
  have c1 := blk_cell (i := 0) b1
  replace c1 : w1.cell? ⟨w.heap.size + 1, 0, none⟩ = some (.slice ya t.length yc) := c1
  clear hw1 b0 b1 b2 b3 hB1
  have HSE := Lib.hid (search_any N (by omega) (fun i => decide (0 ≤ (es.getD (4 * i) Ent.none_).cmp ⟨u, s, k, ⟨#[]⟩⟩)) 103 #[.pointer (some ⟨w.heap.size, 0, none⟩), .pointer (some ⟨w.heap.size + 1 + 1 + 1, 0, none⟩), .pointer (some ⟨w.heap.size + 1 + 1, 0, none⟩)] enters_low w1 fun i wz hi hz =>
    low_any c t xa ya _ xc yc w.heap.size (w.heap.size + 1) (w.heap.size + 1 + 1 + 1) (w.heap.size + 1 + 1) i u s k wz hu ((hz.block _ (blk_lt B0.out)).trans B0.out) ((hz.block _ (blk_lt B3.out)).trans B3.out) ((hz.block _ (blk_lt B1.out)).trans B1.out) ((hz.block _ (blk_lt B2.out)).trans B2.out)
      ((HX.out.below HB1.out (Nat.le_refl _)).below hz (Nat.le_refl _)) ((HY.out.below HB1.out (Nat.le_refl _)).below hz (Nat.le_refl _)) (by have := HT.out; omega) _ _ (HSU.out _ (HN.out i hi)) (by rw [HPL.out i (HN.out i hi)]; exact HRW.out i (HN.out i hi)))
  go_upto_region 3 with (go_at_call 71; (refine HSE.out.mono ?_); rintro e w2 ⟨m, hm1, rfl, hm2, _, hb2⟩; have HB2 := Lib.hid hb2; clear hb2)
  have k3 : w2.cell? ⟨w.heap.size + 1 + 1 + 1, 0, none⟩ = some (.func (.func 102) #[] #[.pointer (some ⟨w.heap.size + 1, 0, none⟩)]) := blk_cell (i := 0) ((HB2.out.block _ (blk_lt B3.out)).trans B3.out)
  have hen := enters_whole
  unfold Enters at hen
  have HWH : Hid (∀ i : Nat, i < N → Calls Tryz.prog 102 #[.int .i64 (i : Int), .pointer (some ⟨w.heap.size + 1, 0, none⟩)] w2 fun e w' => e = .returned (.int .i64 ((bl (4 * i) : Nat) : Int)) ∧ Below w2.heap.size w2 w') := Lib.hid fun i hi => by
    have h := whole_any t ya yc (w.heap.size + 1) i w2 ((HB2.out.block _ (blk_lt B1.out)).trans B1.out) ((HY.out.below HB1.out (Nat.le_refl _)).below HB2.out (Nat.le_refl _)) (by have := HT.out; omega)
    rw [HPL.out i (HN.out i hi)] at h
    exact h
  rcases m with _ | j
  · have HW0 : Hid (Calls Tryz.prog 102 #[.int .i64 0, .pointer (some ⟨w.heap.size + 1, 0, none⟩)] w2 fun e w' => e = .returned (.int .i64 ((bl 0 : Nat) : Int)) ∧ Below w2.heap.size w2 w') := Lib.hid (HWH.out 0 (by omega))
    clear HSE HWH
    go_wp2_with (go_at_fn 102; (refine HW0.out.mono ?_); rintro e w3 ⟨rfl, hb3⟩)
    go_ret
    exact ⟨0, by have := HN.out 0 (by omega); omega, rfl, fun a ha => by omega, (HB1.out.trans (HB2.out.mono HB1.out.size)).trans (hb3.mono (Nat.le_trans HB1.out.size HB2.out.size))⟩
  · have hjN : j < N := by omega
    have HWJ := Lib.hid (HWH.out j hjN)
    have HLW : Hid ((es.getD (4 * j) Ent.none_).cmp ⟨u, s, k, ⟨#[]⟩⟩ < 0) := Lib.hid (by have := hm2 (by omega); simpa using this)
    have hj0 : (0 : Int) ≤ (j : Int) := by omega
    have hj1 : IntKind.i64.wrap (((j + 1 : Nat) : Int) - 1) = (j : Int) := by rw [IntWalk.i64_in _ (by omega)]; omega
    clear HSE HWH hm2
    go_wp2_with (go_at_fn 102; (refine HWJ.out.mono ?_); rintro e w3 ⟨rfl, hb3⟩)
    go_ret
    refine ⟨j, HN.out j hjN, rfl, fun a ha => ?_, (HB1.out.trans (HB2.out.mono HB1.out.size)).trans (hb3.mono (Nat.le_trans HB1.out.size HB2.out.size))⟩
    exact cmp_trans (HUP.out a (4 * j) ha (HN.out j hjN)) HLW.out
end Go.Proofs.YteeikmpfgbfeoaaGreat

/-
  Blocks: the first entry that is not below a key, as the program seeks it.
-/
namespace Go.Proofs.YteeikmpfgbfeoaaGreat
open Go.RowKit

theorem blk_parts {b : List UInt8} {es : List Ent} (h : IsBlk b es) : b.length = (bodyN es es.length).length + 4 * ((es.length + 3) / 4) + 2 ∧ valL (b.drop (b.length - 2)) = (es.length + 3) / 4 ∧ b.take (bodyN es es.length).length = bodyN es es.length ∧ (b.drop (bodyN es es.length).length).take (4 * ((es.length + 3) / 4)) = tailN es es.length := by
  obtain ⟨h1, h2, h3⟩ := putErr_ok h.1
  have hl := blockL_len es
  have hc := blockL_count es h3
  rw [← h.2]
  refine ⟨hl, hc, ?_, ?_⟩
  · unfold blockL
    rw [List.append_assoc, List.take_left' rfl]
  · unfold blockL
    rw [List.append_assoc, List.drop_left' rfl, List.take_left' (by rw [tailN_len])]

set_option maxRecDepth 100000 in
set_option maxHeartbeats 400000 in
theorem seek_no (v : Value) (b : List UInt8) (u : ByteArray) (s k : Int) (w : World) (hv : RdB w v b) (hl : b.length ≤ 1000000) (hg : getB b = none) :
    Calls Tryz.prog 73 #[v, .agg #[.string u, .int .i64 s, .int .i64 k]] w fun e w' => e = .returned (ansN none) ∧ Below w.heap.size w w' := by
  have HG : Hid (∀ wz, Below w.heap.size w wz → Calls Tryz.prog 89 #[v] wz fun e w' => ∃ x, e = .returned (.tuple #[x, .bool false]) ∧ Below wz.heap.size wz w') := Lib.hid fun wz hz => by
    refine (get_any0 v b wz (hv.below hz (Nat.le_refl _)) hl).mono ?_
    rintro e w' ⟨x, rfl, _, hb⟩
    exact ⟨x, by rw [hg]; rfl, hb⟩
  clear hv hg
  go_enter Tryz.func73, Tryz.ntmps73
  go_wp2_with (go_at_call 89; (refine (HG.out _ (((Below.refl _ _).alloc (Nat.le_refl _) _).alloc (by simp) _)).mono ?_); rintro e w1 ⟨x, rfl, hb1⟩; have hr : w1.heap[w.heap.size + 1]? = some (.cells #[.string ⟨#[]⟩, .int .i64 0, .int .i64 0, .string ⟨#[]⟩] 39 (0, 0)) := (hb1.block _ (by simp)).trans (heap_new2 w _ _); have HR := Lib.hid hr; have HB1 : Hid (Below w.heap.size w w1) := Lib.hid ((((Below.refl _ _).alloc (Nat.le_refl _) _).alloc (by simp) _).trans (hb1.mono (by simp; omega))); have s0 := blk_cell (i := 0) hr; have t0 := blk_free (i := 0) hr; have s1 := blk_cell (i := 1) hr; have t1 := blk_free (i := 1) hr; have s2 := blk_cell (i := 2) hr; have t2 := blk_free (i := 2) hr; have s3 := blk_cell (i := 3) hr; have t3 := blk_free (i := 3) hr; clear hr hb1)
  refine bodyPost_ret (results_row_tmp rfl _ _ (w.heap.size + 1) 39 #[.string ⟨#[]⟩, .int .i64 0, .int .i64 0, .string ⟨#[]⟩] (0, 0) _ rfl ?hgE Tryz.underlying39 rfl (by kernel_rfl)) rfl ?_
  case hgE => exact (set4 HR.out rfl rfl rfl rfl).1
  exact ⟨rfl, (set4 HR.out rfl rfl rfl rfl).2 _ (Nat.le_succ _) _ HB1.out⟩

set_option maxRecDepth 100000 in
set_option maxHeartbeats 400000 in
theorem seek_yes (v : Value) (b : List UInt8) (es : List Ent) (u : ByteArray) (s k : Int) (w : World) (hv : RdB w v b) (hl : b.length ≤ 1000000) (hu : u.size ≤ 1000) (hg : IsBlk b es) :
    Calls Tryz.prog 73 #[v, .agg #[.string u, .int .i64 s, .int .i64 k]] w fun e w' => e = .returned (ansN (aboveL es u s k)) ∧ Below w.heap.size w w' := by
  have HG : Hid (∀ wz, Below w.heap.size w wz → Calls Tryz.prog 89 #[v] wz fun e w' => ∃ x, e = .returned (.tuple #[x, .bool true]) ∧ Below wz.heap.size wz w') := Lib.hid fun wz hz => by
    refine (get_any0 v b wz (hv.below hz (Nat.le_refl _)) hl).mono ?_
    rintro e w' ⟨x, rfl, _, hb⟩
    exact ⟨x, by rw [getB_some hg]; rfl, hb⟩
  obtain ⟨h1, h2, h3⟩ := putErr_ok hg.1
  have hpos := List.length_pos_iff.2 h2
  obtain ⟨p1, p2, p3, p4⟩ := blk_parts hg
  have hm := fun k (hk : k < es.length) => rising_may h1 hk
  have HSP : Hid (∀ wz, Below w.heap.size w wz → Calls Tryz.prog 92 #[v] wz fun e w' => ∃ x y, e = .returned (.tuple #[x, y, .bool true]) ∧ RdB w' x (bodyN es es.length) ∧ RdB w' y (tailN es es.length) ∧ Below wz.heap.size wz w') := Lib.hid fun wz hz => by
    have h := split_yes v b wz (hv.below hz (Nat.le_refl _)) _ _ p2 p1
    rw [p3, p4] at h
    exact h
  have HST := Lib.hid (fun x y wz => start_any h1 hpos h3 x y u s k wz (by unfold maxLen; omega))
  have HRE : Hid (∀ i, i < es.length → readP (bodyN es es.length) (prevU es i) (bodyN es i).length = some (es.getD i Ent.none_, (bodyN es (i + 1)).length)) := Lib.hid fun i hi => read_at hm hi
  have HRW : Hid (∀ i, 4 * i < es.length → readP (bodyN es es.length) [] (bodyN es (4 * i)).length = some (es.getD (4 * i) Ent.none_, (bodyN es (4 * i + 1)).length)) := Lib.hid fun i hi => read_whole hm hi
  have HSU : Hid (∀ k, k < es.length → (es.getD k Ent.none_).u.size ≤ 64) := Lib.hid fun k hk => by
    have := (may_facts (hm k hk)).1
    rw [size_list] at this
    exact this
  have HLT : Hid (∀ i, i ≤ es.length → ((bodyN es i).length < (bodyN es es.length).length ↔ i < es.length)) := Lib.hid fun i hi => (⟨rfl, hm⟩ : IsBody (bodyN es es.length) es).at_end hi
  have HLN : Hid (∀ i, (bodyN es i).length < (bodyN es (i + 1)).length) := Lib.hid fun i => bodyN_lt es (Nat.lt_succ_self i)
  have hbc : (bodyN es es.length).length ≤ 1000000 := by omega
  clear hv hg h1 h2 h3 hpos p1 p2 p3 p4 hm hl
  have HPV : Hid (∀ i, prevU es (i + 1) = (es.getD i Ent.none_).u.data.toList) := Lib.hid fun i => by unfold prevU; rw [if_neg (by omega), Nat.add_sub_cancel]
  generalize tailN es es.length = t at *
  generalize bodyN es es.length = c at *
  obtain ⟨bl, hbl⟩ : ∃ bl : Nat → Nat, bl = fun i => (bodyN es i).length := ⟨_, rfl⟩
  have HBE : Hid (∀ i, (bodyN es i).length = bl i) := Lib.hid fun i => by rw [hbl]
  clear hbl
  simp only [HBE.out] at HRE HRW HLT HLN HST
  clear HBE
  go_enter Tryz.func73, Tryz.ntmps73
  go_wp2_with (first | (go_at_call 89; (refine (HG.out _ (((Below.refl _ _).alloc (Nat.le_refl _) _).alloc (by simp) _)).mono ?_); rintro e w1 ⟨gx, rfl, hb1⟩; have HB1 : Hid (Below w.heap.size w w1) := Lib.hid ((((Below.refl _ _).alloc (Nat.le_refl _) _).alloc (by simp) _).trans (hb1.mono (by simp; omega))); have HK1 : Hid (w1.heap[w.heap.size]? = some (.cells #[.string u, .int .i64 s, .int .i64 k] 37 (0, 0))) := Lib.hid ((hb1.block _ (by simp; omega)).trans (alloc_keep (heap_alloc_new w _))); have HR1 : Hid (w1.heap[w.heap.size + 1]? = some (.cells #[.string ⟨#[]⟩, .int .i64 0, .int .i64 0, .string ⟨#[]⟩] 39 (0, 0))) := Lib.hid ((hb1.block _ (by simp)).trans (heap_new2 w _ _)); clear hb1) | (go_at_call 92; (refine (HSP.out _ HB1.out).mono ?_); rintro e w2 ⟨sx, y, rfl, hx, hy, hb2⟩; obtain ⟨xa, xc, rfl, _, _⟩ := hx.form; have HX2 := Lib.hid hx; have HY2 := Lib.hid hy; have HB2 : Hid (Below w.heap.size w w2) := Lib.hid (HB1.out.trans (hb2.mono HB1.out.size)); have HK2 : Hid (w2.heap[w.heap.size]? = some (.cells #[.string u, .int .i64 s, .int .i64 k] 37 (0, 0))) := Lib.hid ((hb2.block _ (blk_lt HK1.out)).trans HK1.out); have HR2 : Hid (w2.heap[w.heap.size + 1]? = some (.cells #[.string ⟨#[]⟩, .int .i64 0, .int .i64 0, .string ⟨#[]⟩] 39 (0, 0))) := Lib.hid ((hb2.block _ (blk_lt HR1.out)).trans HR1.out); have y0 : w2.cell? ⟨w.heap.size, 0, none⟩ = some (.string u) := blk_cell (i := 0) HK2.out; have y1 : w2.cell? ⟨w.heap.size, 1, none⟩ = some (.int .i64 s) := blk_cell (i := 1) HK2.out; have y2 : w2.cell? ⟨w.heap.size, 2, none⟩ = some (.int .i64 k) := blk_cell (i := 2) HK2.out; clear hb2 hx hy) | (go_at_call 93; (refine (HST.out _ _ _ HX2.out HY2.out).mono ?_); rintro e w5 ⟨j, hj, rfl, hlo, hb5⟩; have HLO := Lib.hid hlo; have HX5 := Lib.hid (HX2.out.below hb5 (Nat.le_refl _)); have HB5 : Hid (Below w.heap.size w w5) := Lib.hid (HB2.out.trans (hb5.mono HB2.out.size)); have HK5 : Hid (w5.heap[w.heap.size]? = some (.cells #[.string u, .int .i64 s, .int .i64 k] 37 (0, 0))) := Lib.hid ((hb5.block _ (blk_lt HK2.out)).trans HK2.out); have HR5 : Hid (w5.heap[w.heap.size + 1]? = some (.cells #[.string ⟨#[]⟩, .int .i64 0, .int .i64 0, .string ⟨#[]⟩] 39 (0, 0))) := Lib.hid ((hb5.block _ (blk_lt HR2.out)).trans HR2.out); clear hb5 hlo y0 y1 y2))
  have HXB := Lib.hid (show RdB w5 (.slice xa c.length xc) c ∧ Below w.heap.size w w5 ∧ w5.heap[w.heap.size]? = some (.cells #[.string u, .int .i64 s, .int .i64 k] 37 (0, 0)) ∧ w5.heap[w.heap.size + 1]? = some (.cells #[.string ⟨#[]⟩, .int .i64 0, .int .i64 0, .string ⟨#[]⟩] 39 (0, 0)) from ⟨HX5.out, HB5.out, HK5.out, HR5.out⟩)
  clear HX5 HB5 HK5 HR5
  go_loopw [11, 12] (fun at_ last wr => ∃ (i : Nat) (L : ByteArray), i ≤ es.length ∧ at_ = .int .i64 ((bl i : Nat) : Int) ∧ last = .string L ∧ L.size ≤ 64 ∧ Hid (i < es.length → readP c L.data.toList (bl i) = some (es.getD i Ent.none_, bl (i + 1))) ∧ Hid (∀ a, a < i → (es.getD a Ent.none_).cmp ⟨u, s, k, ⟨#[]⟩⟩ < 0) ∧ Hid (RdB wr (.slice xa c.length xc) c) ∧ Hid (Below w.heap.size w wr ∧ wr.heap[w.heap.size]? = some (.cells #[.string u, .int .i64 s, .int .i64 k] 37 (0, 0)) ∧ wr.heap[w.heap.size + 1]? = some (.cells #[.string ⟨#[]⟩, .int .i64 0, .int .i64 0, .string ⟨#[]⟩] 39 (0, 0)))) (fun at_ _ _ => c.length - (intOf at_).toNat)
  case atStart => exact ⟨4 * j, ⟨#[]⟩, by omega, rfl, rfl, by simp [ByteArray.size], Lib.hid (fun h => HRW.out j h), HLO, Lib.hid HXB.out.1, Lib.hid HXB.out.2⟩
  case round =>
    obtain ⟨i, L, hi, rfl, rfl, hL, HRI, HK, HX, HB⟩ := hrel
    have hie := HLT.out i hi
    by_cases hlt : i < es.length
    · have hlc := hie.2 hlt
      have k1 : decide ((bl i : Int) < (c.length : Int)) = true := by simp; omega
      have k1n : decide (bl i < c.length) = true := by simp; omega
      have hrd := read_any (.slice xa c.length xc) c L (bl i) wr HX.out (by omega)
      rw [HRI.out hlt] at hrd
      have HAT := Lib.hid (@above_at es u s k i hlt HK.out)
      have HMO := Lib.hid (show (es.getD i Ent.none_).cmp ⟨u, s, k, ⟨#[]⟩⟩ < 0 → ∀ a, a < i + 1 → (es.getD a Ent.none_).cmp ⟨u, s, k, ⟨#[]⟩⟩ < 0 from fun h2 a ha => by
        rcases Nat.lt_or_ge a i with h1 | h1
        · exact HK.out a h1
        · obtain rfl : a = i := by omega
          exact h2)
      have HRN := Lib.hid (fun h : i + 1 < es.length => HRE.out (i + 1) h)
      rw [HPV.out i] at HRN
      have hsu := HSU.out i hlt
      have hln := HLN.out i
      generalize es.getD i Ent.none_ = X at *
      obtain ⟨xu, xs, xk, xv⟩ := X
      simp only at hsu HRN
      have HRD : Hid (Calls Tryz.prog 94 #[.slice xa c.length xc, .int .i64 ((bl i : Nat) : Int), .string L] wr fun e w' => e = .returned (.tuple #[.agg #[.string xu, .int .i64 xs, .int .i64 xk, .string xv], .int .i64 ((bl (i + 1) : Nat) : Int), .bool true]) ∧ Below wr.heap.size wr w') := Lib.hid hrd
      obtain ⟨cm, hcm⟩ : ∃ cm, (Ent.mk xu xs xk xv).cmp ⟨u, s, k, ⟨#[]⟩⟩ = cm := ⟨_, rfl⟩
      have HCM : Hid (∀ wz, Calls Tryz.prog 40 #[.agg #[.string xu, .int .i64 xs, .int .i64 xk], .agg #[.string u, .int .i64 s, .int .i64 k]] wz fun e w' => e = .returned (.int .i64 cm) ∧ Below wz.heap.size wz w') := Lib.hid fun wz => by rw [← hcm]; exact cmp_any xu xs xk u s k (by unfold maxLen; omega) (by unfold maxLen; omega) wz
      rw [hcm] at HAT HMO
      clear hcm hrd HRI hie
      by_cases hc0 : 0 ≤ cm
      · have hd : decide (0 ≤ cm) = true := by simpa using hc0
        have HR := Lib.hid (HAT.out (by omega))
        clear HMO HAT HRN
        go_wp2_with (first | (go_at_call 94; (refine HRD.out.mono ?_); rintro e w3 ⟨rfl, hb3⟩; have HB3 : Hid (Below w.heap.size w w3) := Lib.hid (HB.out.1.trans (hb3.mono HB.out.1.size)); have HK3 : Hid (w3.heap[w.heap.size]? = some (.cells #[.string u, .int .i64 s, .int .i64 k] 37 (0, 0))) := Lib.hid ((hb3.block _ (blk_lt HB.out.2.1)).trans HB.out.2.1); have HR3 : Hid (w3.heap[w.heap.size + 1]? = some (.cells #[.string ⟨#[]⟩, .int .i64 0, .int .i64 0, .string ⟨#[]⟩] 39 (0, 0))) := Lib.hid ((hb3.block _ (blk_lt HB.out.2.2)).trans HB.out.2.2); have y0 : w3.cell? ⟨w.heap.size, 0, none⟩ = some (.string u) := blk_cell (i := 0) HK3.out; have y1 : w3.cell? ⟨w.heap.size, 1, none⟩ = some (.int .i64 s) := blk_cell (i := 1) HK3.out; have y2 : w3.cell? ⟨w.heap.size, 2, none⟩ = some (.int .i64 k) := blk_cell (i := 2) HK3.out; have hlt3 := blk_lt HK3.out; have HX3 := Lib.hid (HX.out.below hb3 (Nat.le_refl _)); clear hb3) | (go_at_call 40; (refine (HCM.out _).mono ?_); rintro e w4 ⟨rfl, hb4⟩; have HB4 : Hid (Below w.heap.size w w4) := Lib.hid ((HB3.out.alloc HB3.out.size _).trans (hb4.mono (Nat.le_trans HB3.out.size (by simp)))); have HK4 : Hid (w4.heap[w.heap.size]? = some (.cells #[.string u, .int .i64 s, .int .i64 k] 37 (0, 0))) := Lib.hid ((hb4.block _ (blk_lt (alloc_keep HK3.out))).trans (alloc_keep HK3.out)); have HR4 : Hid (w4.heap[w.heap.size + 1]? = some (.cells #[.string ⟨#[]⟩, .int .i64 0, .int .i64 0, .string ⟨#[]⟩] 39 (0, 0))) := Lib.hid ((hb4.block _ (blk_lt (alloc_keep HR3.out))).trans (alloc_keep HR3.out)); have HX4 : Hid (w4.heap[w3.heap.size]? = some (.cells #[.string xu, .int .i64 xs, .int .i64 xk, .string xv] 39 (0, 0))) := Lib.hid ((hb4.block _ (by simp)).trans (heap_alloc_new w3 _)); have HRX4 := Lib.hid ((HX3.out.below ((Below.refl w3.heap.size _).alloc (Nat.le_refl _) _) (Nat.le_refl _)).below hb4 (by simp)); clear hb4 y0 y1 y2 hlt3; have hrow := HR4.out; have hbox := HX4.out; have s0 := blk_cell (i := 0) hrow; have t0 := blk_free (i := 0) hrow; have s1 := blk_cell (i := 1) hrow; have t1 := blk_free (i := 1) hrow; have s2 := blk_cell (i := 2) hrow; have t2 := blk_free (i := 2) hrow; have s3 := blk_cell (i := 3) hrow; have t3 := blk_free (i := 3) hrow; have x0 := blk_cell (i := 0) hbox; have x1 := blk_cell (i := 1) hbox; have x2 := blk_cell (i := 2) hbox; have x3 := blk_cell (i := 3) hbox; clear hrow hbox))
        refine bodyPost_ret (results_row_tmp rfl _ _ (w.heap.size + 1) 39 #[.string xu, .int .i64 xs, .int .i64 xk, .string xv] (0, 0) _ rfl ?hgE Tryz.underlying39 rfl (by kernel_rfl)) rfl ?_
        case hgE => exact (set4 HR4.out rfl rfl rfl rfl).1
        rw [HR.out]
        exact ⟨rfl, (set4 HR4.out rfl rfl rfl rfl).2 _ (Nat.le_succ _) _ HB4.out⟩
      · have hd : decide (0 ≤ cm) = false := by simpa using hc0
        have HN := Lib.hid (HMO.out (by omega))
        clear HMO HAT
        go_upto_region 10 with (first | (go_at_call 94; (refine HRD.out.mono ?_); rintro e w3 ⟨rfl, hb3⟩; have HB3 : Hid (Below w.heap.size w w3) := Lib.hid (HB.out.1.trans (hb3.mono HB.out.1.size)); have HK3 : Hid (w3.heap[w.heap.size]? = some (.cells #[.string u, .int .i64 s, .int .i64 k] 37 (0, 0))) := Lib.hid ((hb3.block _ (blk_lt HB.out.2.1)).trans HB.out.2.1); have HR3 : Hid (w3.heap[w.heap.size + 1]? = some (.cells #[.string ⟨#[]⟩, .int .i64 0, .int .i64 0, .string ⟨#[]⟩] 39 (0, 0))) := Lib.hid ((hb3.block _ (blk_lt HB.out.2.2)).trans HB.out.2.2); have y0 : w3.cell? ⟨w.heap.size, 0, none⟩ = some (.string u) := blk_cell (i := 0) HK3.out; have y1 : w3.cell? ⟨w.heap.size, 1, none⟩ = some (.int .i64 s) := blk_cell (i := 1) HK3.out; have y2 : w3.cell? ⟨w.heap.size, 2, none⟩ = some (.int .i64 k) := blk_cell (i := 2) HK3.out; have hlt3 := blk_lt HK3.out; have HX3 := Lib.hid (HX.out.below hb3 (Nat.le_refl _)); clear hb3) | (go_at_call 40; (refine (HCM.out _).mono ?_); rintro e w4 ⟨rfl, hb4⟩; have HB4 : Hid (Below w.heap.size w w4) := Lib.hid ((HB3.out.alloc HB3.out.size _).trans (hb4.mono (Nat.le_trans HB3.out.size (by simp)))); have HK4 : Hid (w4.heap[w.heap.size]? = some (.cells #[.string u, .int .i64 s, .int .i64 k] 37 (0, 0))) := Lib.hid ((hb4.block _ (blk_lt (alloc_keep HK3.out))).trans (alloc_keep HK3.out)); have HR4 : Hid (w4.heap[w.heap.size + 1]? = some (.cells #[.string ⟨#[]⟩, .int .i64 0, .int .i64 0, .string ⟨#[]⟩] 39 (0, 0))) := Lib.hid ((hb4.block _ (blk_lt (alloc_keep HR3.out))).trans (alloc_keep HR3.out)); have HX4 : Hid (w4.heap[w3.heap.size]? = some (.cells #[.string xu, .int .i64 xs, .int .i64 xk, .string xv] 39 (0, 0))) := Lib.hid ((hb4.block _ (by simp)).trans (heap_alloc_new w3 _)); have HRX4 := Lib.hid ((HX3.out.below ((Below.refl w3.heap.size _).alloc (Nat.le_refl _) _) (Nat.le_refl _)).below hb4 (by simp)); clear hb4 y0 y1 y2 hlt3))
        have x0 : w4.cell? ⟨w3.heap.size, 0, none⟩ = some (.string xu) := blk_cell (i := 0) HX4.out
        refine wp_region_plan [(true, 0), (true, 1), (true, 2), (true, 3), (true, 4), (true, 5)] (by kernel_rfl) (by kernel_rfl) (by kernel_rfl) (by kernel_rfl) (by kernel_rfl) ?_
        simp only [planO, List.drop_succ_cons, List.drop_zero]
        refine PlanO.take (v := ?v0) (by kernel_rfl) ?y0 ?r0
        case y0 => (intro wz hz; go_simp; try with_reducible rfl)
        (try simp only [Act.put, List.setIfInBounds_toArray, List.set_cons_zero, List.set_cons_succ])
        refine PlanO.take (v := .pointer (some ⟨w3.heap.size, 0, none⟩)) (by kernel_rfl) ?y1 ?r1
        case y1 => (intro wz hz; go_simp; try with_reducible rfl)
        (try simp only [Act.put, List.setIfInBounds_toArray, List.set_cons_zero, List.set_cons_succ])
        refine PlanO.take (v := .pointer (some ⟨w3.heap.size, 0, none⟩)) (by kernel_rfl) ?y2 ?r2
        case y2 => (intro wz hz; go_simp; try with_reducible rfl)
        (try simp only [Act.put, List.setIfInBounds_toArray, List.set_cons_zero, List.set_cons_succ])
        refine PlanO.take (v := .string xu) (by kernel_rfl) ?y3 ?r3
        case y3 => (intro wz hz; have c0 := Ext.at_ hz x0; go_simp; try with_reducible rfl)
        (try simp only [Act.put, List.setIfInBounds_toArray, List.set_cons_zero, List.set_cons_succ])
        refine PlanO.take (v := ?v4) (by kernel_rfl) ?y4 ?r4
        case y4 => (intro wz hz; go_simp; try with_reducible rfl)
        (try simp only [Act.put, List.setIfInBounds_toArray, List.set_cons_zero, List.set_cons_succ])
        refine PlanO.take (v := ?v5) (by kernel_rfl) ?y5 ?r5
        case y5 => (intro wz hz; go_simp; try with_reducible rfl)
        (try simp only [Act.put, List.setIfInBounds_toArray, List.set_cons_zero, List.set_cons_succ])
        refine PlanO.done (NoPanic.normal ?_)
        go_wp2
        exact ⟨⟨i + 1, xu, by omega, rfl, rfl, hsu, HRN, HN, Lib.hid (HRX4.out.below (Below.refl w4.heap.size _).drew (Nat.le_refl _)), Lib.hid ⟨HB4.out.drew, HK4.out, HR4.out⟩⟩, by simp [intOf]; omega⟩
    · have hie2 : i = es.length := by omega
      have k1 : decide ((bl i : Int) < (c.length : Int)) = false := by simp; omega
      have k1n : decide (bl i < c.length) = false := by simp; omega
      have HR := Lib.hid (above_no (es := es) (u := u) (s := s) (k := k) (fun j hj => HK.out j (by omega)))
      have hrow := HB.out.2.2
      have s0 := blk_cell (i := 0) hrow; have t0 := blk_free (i := 0) hrow; have s1 := blk_cell (i := 1) hrow; have t1 := blk_free (i := 1) hrow; have s2 := blk_cell (i := 2) hrow; have t2 := blk_free (i := 2) hrow; have s3 := blk_cell (i := 3) hrow; have t3 := blk_free (i := 3) hrow
      clear hrow hie2 hie
      go_wp2
      refine bodyPost_ret (results_row_tmp rfl _ _ (w.heap.size + 1) 39 #[.string ⟨#[]⟩, .int .i64 0, .int .i64 0, .string ⟨#[]⟩] (0, 0) _ rfl ?hgE Tryz.underlying39 rfl (by kernel_rfl)) rfl ?_
      case hgE => exact (set4 HB.out.2.2 rfl rfl rfl rfl).1
      rw [HR.out]
      exact ⟨rfl, (set4 HB.out.2.2 rfl rfl rfl rfl).2 _ (Nat.le_succ _) _ HB.out.1⟩

theorem seek_any12 : SeekC := fun v b u s k hu _ _ w hv hl => by
  cases h : getB b with
  | none =>
    have := seek_no v b u s k w hv hl h
    refine this.mono ?_
    rintro e w' ⟨rfl, hb⟩
    exact ⟨rfl, hb⟩
  | some es => exact seek_yes v b es u s k w hv hl hu (getB_is h)
end Go.Proofs.YteeikmpfgbfeoaaGreat

/-
  Tables: seek: the first entry of a table that is not below a key: the last frame's rows are halved, then one block is read.
-/
namespace Go.Proofs.YteeikmpfgbfeoaaGreat
open Go.RowKit

/-- The rows are halved rightly: it is the block that tells what is not below. -/
theorem seek_math {ps : List (List Ent)} (hne : ∀ p ∈ ps, p ≠ []) (hup : Up ps.flatten) (u : ByteArray) (s k : Int) {m : Nat} (hm : m ≤ ps.length) (h1 : 0 < m → (lastE (ps.getD (m - 1) [])).cmp ⟨u, s, k, ⟨#[]⟩⟩ < 0) (h2 : m < ps.length → ¬ (lastE (ps.getD m [])).cmp ⟨u, s, k, ⟨#[]⟩⟩ < 0) :
    aboveL ps.flatten u s k = if m < ps.length then aboveL (ps.getD m []) u s k else none := by
  have hlast : ∀ p : List Ent, p ≠ [] → ∃ q, p = q ++ [lastE p] := fun p hp => by
    refine ⟨p.dropLast, ?_⟩
    have h := List.dropLast_concat_getLast hp
    have e : lastE p = p.getLast hp := by
      have := List.length_pos_iff.2 hp
      unfold lastE
      rw [List.getLast_eq_getElem]
      simp [List.getD, show p.length - 1 < p.length by omega]
    rw [e, h]
  have hsp : ps.flatten = (ps.take m).flatten ++ (ps.drop m).flatten := by rw [← List.flatten_append, List.take_append_drop]
  have hlow : ∀ x ∈ (ps.take m).flatten, x.cmp ⟨u, s, k, ⟨#[]⟩⟩ < 0 := by
    intro x hx
    cases m with
    | zero => simp at hx
    | succ m =>
      have hlt : m < ps.length := hm
      have h1 := h1 (by omega)
      rw [Nat.add_sub_cancel] at h1
      have e : ps.getD m [] = ps[m] := by simp [List.getD, hlt]
      rw [e] at h1
      obtain ⟨q, hq⟩ := hlast ps[m] (hne _ (List.getElem_mem hlt))
      have ht : (ps.take (m + 1)).flatten = ((ps.take m).flatten ++ q) ++ [lastE ps[m]] := by
        rw [List.take_add_one, List.getElem?_eq_getElem hlt, Option.toList_some, List.flatten_append, List.flatten_singleton]
        conv => lhs; rw [hq]
        rw [List.append_assoc]
      have hu : Up ((ps.take (m + 1)).flatten) := hup.sublist (by rw [hsp]; exact List.sublist_append_left _ _)
      rw [ht] at hu hx
      rcases List.mem_append.1 hx with hx | hx
      · exact cmp_trans ((List.pairwise_append.1 hu).2.2 x hx _ (List.mem_singleton_self _)) h1
      · rw [List.mem_singleton.1 hx]; exact h1
  have hnone : (ps.take m).flatten.find? (fun x => !decide (x.cmp ⟨u, s, k, ⟨#[]⟩⟩ < 0)) = none := List.find?_eq_none.2 fun x hx => by
    have := hlow x hx
    simp [this]
  unfold aboveL
  rw [hsp, List.find?_append, hnone, Option.none_or]
  by_cases hlt : m < ps.length
  · rw [if_pos hlt]
    have e : ps.getD m [] = ps[m] := by simp [List.getD, hlt]
    have h2 := h2 hlt
    rw [e] at h2 ⊢
    rw [List.drop_eq_getElem_cons hlt, List.flatten_cons, List.find?_append]
    obtain ⟨q, hq⟩ := hlast ps[m] (hne _ (List.getElem_mem hlt))
    have hs : (ps[m].find? (fun x => !decide (x.cmp ⟨u, s, k, ⟨#[]⟩⟩ < 0))).isSome = true := by
      rw [List.find?_isSome]
      refine ⟨lastE ps[m], ?_, by simp [h2]⟩
      conv => lhs; rw [hq]
      exact List.mem_append_right _ (List.mem_singleton_self _)
    obtain ⟨z, hz⟩ := Option.isSome_iff_exists.1 hs
    rw [hz]
    rfl
  · rw [if_neg hlt, List.drop_of_length_le (by omega)]
    rfl

theorem enters_rows : Enters Tryz.prog 72 := enters_of Tryz.func72 (by kernel_rfl) rfl

set_option maxRecDepth 100000 in
set_option maxHeartbeats 400000 in
theorem ask_any {rs : List Rw} {ra : Option Addr} {rc q4 q5 i : Nat} {u : ByteArray} {s k : Int} {w : World} (h4 : w.heap[q4]? = some (.cells #[.slice ra rs.length rc] 53 (0, 0))) (h5 : w.heap[q5]? = some (.cells #[.string u, .int .i64 s, .int .i64 k] 37 (0, 0)))
    (hr : RdR w (.slice ra rs.length rc) rs) (hi : i < rs.length) (hu : u.size ≤ maxLen) (hx : (rs.getD i Rw.none_).u.size ≤ maxLen) :
    Calls Tryz.prog 72 #[.int .i64 (i : Int), .pointer (some ⟨q4, 0, none⟩), .pointer (some ⟨q5, 0, none⟩)] w fun e w' => e = .returned (.bool (decide (0 ≤ (⟨(rs.getD i Rw.none_).u, (rs.getD i Rw.none_).s, (rs.getD i Rw.none_).k, ⟨#[]⟩⟩ : Ent).cmp ⟨u, s, k, ⟨#[]⟩⟩))) ∧ Below w.heap.size w w' := by
  obtain ⟨hc1, hc2⟩ : rs.length ≤ rc ∧ rc ≤ maxLen := by
    obtain ⟨_, _, he, h3, h4⟩ := hr.form
    cases he
    exact ⟨h3, h4⟩
  unfold maxLen at hc2
  obtain ⟨_, _, hva, hone⟩ := hr.one
  cases hva
  obtain ⟨rb, ro, rfl, hrb, r0, r1, r2, _, _⟩ := hone i hi
  generalize rs.getD i Rw.none_ = X at *
  obtain ⟨xu, xs, xk, xa, xn⟩ := X
  simp only at r0 r1 r2 hx ⊢
  have HCM : Hid (∀ wz, Calls Tryz.prog 40 #[.agg #[.string xu, .int .i64 xs, .int .i64 xk], .agg #[.string u, .int .i64 s, .int .i64 k]] wz fun e w' => e = .returned (.int .i64 ((⟨xu, xs, xk, ⟨#[]⟩⟩ : Ent).cmp ⟨u, s, k, ⟨#[]⟩⟩)) ∧ Below wz.heap.size wz w') := Lib.hid fun wz => cmp_any xu xs xk u s k hx hu wz
  generalize (⟨xu, xs, xk, ⟨#[]⟩⟩ : Ent).cmp ⟨u, s, k, ⟨#[]⟩⟩ = cm at *
  have HQ4 := Lib.hid (blk_lt h4)
  have HQ5 := Lib.hid (blk_lt h5)
  have HRB := Lib.hid hrb
  have z4 := blk_cell (i := 0) h4
  have k0 := blk_cell (i := 0) h5
  have k1 := blk_cell (i := 1) h5
  have k2 := blk_cell (i := 2) h5
  simp only [List.getElem?_toArray, List.getElem?_cons_zero, List.getElem?_cons_succ] at z4 k0 k1 k2
  have hil : (i : Int) < (rs.length : Int) := by omega
  clear hone h4 h5 hr hrb hu hx
  go_enter Tryz.func72, Tryz.ntmps72
  go_upto_region 1 with (fail)
  refine wp_region_two (fun wz => Below w.heap.size w wz) (fun _ => True) [(0, 0), (0, 1), (0, 2), (0, 3), (0, 4), (0, 5), (2, 6), (0, 7), (0, 8)] [] (by kernel_rfl) (by kernel_rfl) (by kernel_rfl) (by kernel_rfl) (by kernel_rfl) (Below.refl _ _).drew trivial ?_
  simp only [planT, List.drop_succ_cons, List.drop_zero]
  refine PlanT.take0 (v := ?vL0) (by kernel_rfl) ?yL0 ?rL0
  case yL0 => (intro wz hz; have y0 := (hz.cell (p := ⟨q4, 0, none⟩) HQ4.out).trans z4; go_simp; try with_reducible rfl)
  (try simp only [Act.put, List.setIfInBounds_toArray, List.set_cons_zero, List.set_cons_succ])
  refine PlanT.take0 (v := ?vL1) (by kernel_rfl) ?yL1 ?rL1
  case yL1 => (intro wz hz; go_simp; try with_reducible rfl)
  (try simp only [Act.put, List.setIfInBounds_toArray, List.set_cons_zero, List.set_cons_succ])
  refine PlanT.take0 (v := ?vL2) (by kernel_rfl) ?yL2 ?rL2
  case yL2 => (intro wz hz; go_simp; try with_reducible rfl)
  (try simp only [Act.put, List.setIfInBounds_toArray, List.set_cons_zero, List.set_cons_succ])
  refine PlanT.take0 (v := ?vL3) (by kernel_rfl) ?yL3 ?rL3
  case yL3 => (intro wz hz; go_simp; try with_reducible rfl)
  (try simp only [Act.put, List.setIfInBounds_toArray, List.set_cons_zero, List.set_cons_succ])
  refine PlanT.take0 (v := ?vL4) (by kernel_rfl) ?yL4 ?rL4
  case yL4 => (intro wz hz; have y0 := (hz.cell (p := ⟨rb, ro + i * 5, none⟩) HRB.out).trans r0; have y1 := (hz.cell (p := ⟨rb, ro + i * 5 + 1, none⟩) HRB.out).trans r1; have y2 := (hz.cell (p := ⟨rb, ro + i * 5 + 2, none⟩) HRB.out).trans r2; go_simp; try with_reducible rfl)
  (try simp only [Act.put, List.setIfInBounds_toArray, List.set_cons_zero, List.set_cons_succ])
  refine PlanT.take0 (v := ?vL5) (by kernel_rfl) ?yL5 ?rL5
  case yL5 => (intro wz hz; have y0 := (hz.cell (p := ⟨q5, 0, none⟩) HQ5.out).trans k0; have y1 := (hz.cell (p := ⟨q5, 1, none⟩) HQ5.out).trans k1; have y2 := (hz.cell (p := ⟨q5, 2, none⟩) HQ5.out).trans k2; go_simp; try with_reducible rfl)
  (try simp only [Act.put, List.setIfInBounds_toArray, List.set_cons_zero, List.set_cons_succ])
  refine PlanT.exec2 (fun K hK => ⟨by kernel_rfl, ?_⟩)
  go_simp
  refine (HCM.out _).mono ?_
  rintro e u3 ⟨rfl, hb3⟩
  have HB3 : Hid (Below w.heap.size w u3) := Lib.hid ((show Below w.heap.size w w.drew from (Below.refl _ _).drew).trans (hb3.mono (by simp)))
  clear hb3
  refine hK.out _ _ HB3.out trivial ?_
  clear hK K
  (try simp only [Act.put, List.setIfInBounds_toArray, List.set_cons_zero, List.set_cons_succ])
  refine PlanT.take0 (v := .bool (decide (0 ≤ cm))) (by kernel_rfl) ?yL7 ?rL7
  case yL7 => (intro wz hz; go_simp; try with_reducible rfl)
  (try simp only [Act.put, List.setIfInBounds_toArray, List.set_cons_zero, List.set_cons_succ])
  refine PlanT.take0 (v := ?vL8) (by kernel_rfl) ?yL8 ?rL8
  case yL8 => (intro wz hz; go_simp; try with_reducible rfl)
  (try simp only [Act.put, List.setIfInBounds_toArray, List.set_cons_zero, List.set_cons_succ])
  refine PlanT.done (NoPanic.normal ?_)
  go_wp2
  go_ret
  exact ⟨rfl, HB3.out⟩

theorem rowsQ_at {ps : List (List Ent)} {m : Nat} (h : m < ps.length) : (rowsQ ps).getD m Rw.none_ = rowP (ps.getD m []) (tabQ (ps.take m)).length := by
  unfold rowsQ
  simp [List.getD, h]
theorem Seen.block {b : List UInt8} {ps : List (List Ent)} (h : Seen b ps) {m : Nat} (hm : m < ps.length) : frOk b (tabQ (ps.take m)).length = true ∧ frP b (tabQ (ps.take m)).length = blockL (ps.getD m []) ∧ putErr (ps.getD m []) = 0 := by
  have e : ps.getD m [] = ps[m] := by simp [List.getD, hm]
  have hpe := h.ok _ (List.getElem_mem hm)
  have hb : b = tabQ (ps.take m) ++ (frRaw (blockL ps[m]) ++ (tabQ (ps.drop (m + 1)) ++ b.drop (tabQ ps).length)) := by
    have h1 : tabQ ps = tabQ (ps.take m) ++ (frRaw (blockL ps[m]) ++ tabQ (ps.drop (m + 1))) := by
      conv => lhs; rw [← List.take_append_drop m ps, List.drop_eq_getElem_cons hm]
      unfold tabQ
      rw [List.flatMap_append, List.flatMap_cons]
    have h2 := List.take_append_drop (tabQ ps).length b
    rw [h.bytes] at h2
    conv => lhs; rw [← h2]
    conv => lhs; lhs; rw [h1]
    simp only [List.append_assoc]
  have hl := (blk_len hpe).1
  have f1 := frame_there (tabQ (ps.take m)) (blockL ps[m]) (tabQ (ps.drop (m + 1)) ++ b.drop (tabQ ps).length) (by omega)
  have f2 := frame_parts (tabQ (ps.take m)) (blockL ps[m]) (tabQ (ps.drop (m + 1)) ++ b.drop (tabQ ps).length) (by omega)
  rw [← hb] at f1 f2
  rw [e]
  exact ⟨f1, f2.2.2, hpe⟩

set_option maxRecDepth 100000 in
set_option maxHeartbeats 600000 in
theorem seekt_any {v rv : Value} {b : List UInt8} {ps : List (List Ent)} {u : ByteArray} {s k : Int} {w : World} (hv : RdB w v b) (hl : b.length ≤ 1000000) (hr : RdR w rv (rowsQ ps)) (hs : Seen b ps) (hup : risingB ps.flatten = true) (hu : u.size ≤ 1000) :
    Calls Tryz.prog 35 #[v, rv, .agg #[.string u, .int .i64 s, .int .i64 k]] w fun e w' => e = .returned (ansN (aboveL ps.flatten u s k)) ∧ Below w.heap.size w w' := by
  have HV := Lib.hid hv
  have HRR := Lib.hid hr
  obtain ⟨ra, rc, rfl, hc1, hc2⟩ := hr.form
  unfold maxLen at hc2
  have HM := Lib.hid (fun (m : Nat) (hm : m ≤ ps.length) h1 h2 => seek_math (fun p hp => (putErr_ok (hs.ok p hp)).2.1) (up_of_rising hup) u s k hm h1 h2)
  have HBK := Lib.hid (fun (m : Nat) (hm : m < ps.length) => hs.block hm)
  have HAT := Lib.hid (fun (m : Nat) (hm : m < ps.length) => rowsQ_at (ps := ps) hm)
  have hlen := rowsQ_len ps
  have hfew := hs.len
  have HTL : Hid (∀ m, m < ps.length → (tabQ (ps.take m)).length ≤ 25602048) := Lib.hid fun m hm => by
    have := tabQ_len (ps := ps.take m) fun p hp => hs.ok p (List.mem_of_mem_take hp)
    rw [List.length_take] at this
    omega
  have hb3 : ∀ o1 o2 o3 : Obj, Below w.heap.size w (((w.alloc o1).alloc o2).alloc o3) := fun o1 o2 o3 => (((Below.refl _ w).alloc (Nat.le_refl _) o1).alloc (by simp) o2).alloc (by simp; omega) o3
  have HB3 := Lib.hid hb3
  obtain ⟨w3, hw3⟩ : ∃ w3, w3 = (((w.alloc (.cells #[.slice ra (rowsQ ps).length rc] 53)).alloc (.cells #[.string u, .int .i64 s, .int .i64 k] 37)).alloc (.cells #[.string ⟨#[]⟩, .int .i64 0, .int .i64 0, .string ⟨#[]⟩] 39)) := ⟨_, rfl⟩
  have q4 : w3.heap[w.heap.size]? = some (.cells #[.slice ra (rowsQ ps).length rc] 53 (0, 0)) := by rw [hw3]; exact alloc_keep (alloc_keep (heap_alloc_new w _))
  have q5 : w3.heap[w.heap.size + 1]? = some (.cells #[.string u, .int .i64 s, .int .i64 k] 37 (0, 0)) := by rw [hw3]; exact alloc_keep (heap_new2 w _ _)
  have q6 : w3.heap[w.heap.size + 1 + 1]? = some (.cells #[.string ⟨#[]⟩, .int .i64 0, .int .i64 0, .string ⟨#[]⟩] 39 (0, 0)) := by rw [hw3]; exact heap_new3 w _ _ _
  have hbw : Below w.heap.size w w3 := by rw [hw3]; exact hb3 _ _ _
  have HSE := Lib.hid (search_any (rowsQ ps).length (by omega) (fun i => decide (0 ≤ (⟨((rowsQ ps).getD i Rw.none_).u, ((rowsQ ps).getD i Rw.none_).s, ((rowsQ ps).getD i Rw.none_).k, ⟨#[]⟩⟩ : Ent).cmp ⟨u, s, k, ⟨#[]⟩⟩)) 72 #[.pointer (some ⟨w.heap.size, 0, none⟩), .pointer (some ⟨w.heap.size + 1, 0, none⟩)] enters_rows w3 fun i wz hi hz =>
    ask_any ((hz.block _ (blk_lt q4)).trans q4) ((hz.block _ (blk_lt q5)).trans q5) ((hr.below hbw (Nat.le_refl _)).below hz (Nat.le_refl _)) hi (by unfold maxLen; omega) (by
      rw [hlen] at hi
      rw [HAT.out i hi]
      have h1 := (rowP_ok (HBK.out i hi).2.2 (at_ := 0) (by omega)).u
      unfold maxLen
      exact Nat.le_trans h1 (by omega)))
  have HQ := Lib.hid (And.intro q4 (And.intro q5 (And.intro q6 hbw)))
  have HW3 := Lib.hid hw3
  have z4 := blk_cell (i := 0) q4
  simp only [List.getElem?_toArray, List.getElem?_cons_zero] at z4
  have HLEN := Lib.hid hlen
  have hN : (rowsQ ps).length ≤ 256 := by omega
  clear hv hr hs hup hb3 q4 q5 q6 hbw hlen hfew
  rw [hw3] at z4
  clear hw3
  go_enter Tryz.func35, Tryz.ntmps35
  go_upto_region 2 with (go_at_call 71; rw [← HW3.out]; (refine HSE.out.mono ?_); rintro e w4 ⟨m, hm, rfl, hp1, hp2, hb4⟩; have HP := Lib.hid (And.intro hp1 hp2); have q44 := (hb4.block _ (blk_lt HQ.out.1)).trans HQ.out.1; have y4 := blk_cell (i := 0) q44; have HB4 := Lib.hid hb4; clear hp1 hp2 hb4 q44)
  have q64 := (HB4.out.block _ (blk_lt HQ.out.2.2.1)).trans HQ.out.2.2.1
  have q54 := (HB4.out.block _ (blk_lt HQ.out.2.1)).trans HQ.out.2.1
  have HBW : Hid (Below w.heap.size w w4) := Lib.hid (HQ.out.2.2.2.trans (HB4.out.mono HQ.out.2.2.2.size))
  have hml : m ≤ ps.length := by have := HLEN.out; omega
  have hrow : ∀ i, i < ps.length → (⟨((rowsQ ps).getD i Rw.none_).u, ((rowsQ ps).getD i Rw.none_).s, ((rowsQ ps).getD i Rw.none_).k, ⟨#[]⟩⟩ : Ent).cmp ⟨u, s, k, ⟨#[]⟩⟩ = (lastE (ps.getD i [])).cmp ⟨u, s, k, ⟨#[]⟩⟩ := fun i hi => by rw [HAT.out i hi]; rfl
  have hans := HM.out m hml (fun h0 => by
    have h := HP.out.1 h0
    simp only [hrow (m - 1) (by omega)] at h
    simpa using h) (fun h0 => by
    have h := HP.out.2 (by have := HLEN.out; omega)
    simp only [hrow m h0] at h
    simpa using h)
  clear hrow
  have s0 := blk_cell (i := 0) q64; have t0 := blk_free (i := 0) q64; have s1 := blk_cell (i := 1) q64; have t1 := blk_free (i := 1) q64; have s2 := blk_cell (i := 2) q64; have t2 := blk_free (i := 2) q64; have s3 := blk_cell (i := 3) q64; have t3 := blk_free (i := 3) q64
  simp only [List.getElem?_toArray, List.getElem?_cons_zero, List.getElem?_cons_succ] at y4 s0 s1 s2 s3
  have HQ6 := Lib.hid q64
  by_cases hlt : m < ps.length
  · have d1 : ((m : Int) == ((rowsQ ps).length : Int)) = false := by
      have := HLEN.out
      have : (m : Int) ≠ ((rowsQ ps).length : Int) := by omega
      simpa using this
    have d2 : (m : Int) < ((rowsQ ps).length : Int) := by have := HLEN.out; omega
    have d3 : m < (rowsQ ps).length := by omega
    have d4 : ¬ m = (rowsQ ps).length := by omega
    rw [if_pos hlt] at hans
    obtain ⟨hf, hfp, hpe⟩ := HBK.out m hlt
    obtain ⟨_, _, hva, hone⟩ := ((HRR.out.below HQ.out.2.2.2 (Nat.le_refl _)).below HB4.out (Nat.le_refl _)).one
    cases hva
    obtain ⟨rb, ro, rfl, hrb, _, _, _, r3, _⟩ := hone m d3
    rw [HAT.out m hlt] at r3
    have r3 : w4.cell? ⟨rb, ro + m * 5 + 3, none⟩ = some (.int .i64 ((tabQ (ps.take m)).length : Int)) := r3
    have hta := HTL.out m hlt
    have HG : Hid (∀ wz, Below w.heap.size w wz → Calls Tryz.prog 66 #[v, .int .i64 ((tabQ (ps.take m)).length : Int)] wz fun e w' => ∃ (y : Value) (n : Int), e = .returned (.tuple #[y, .int .i64 n, .bool true]) ∧ RdB w' y (blockL (ps.getD m [])) ∧ Below wz.heap.size wz w') := Lib.hid fun wz hz => by
      refine (fget_any wz v b _ (HV.out.below hz (Nat.le_refl _)) (by omega) (by omega)).mono ?_
      rintro e w' (⟨hno, _, _⟩ | ⟨p, hp, _, y, rfl, ho, hb⟩)
      · have := hno _ rfl
        rw [hf] at this
        cases this
      · obtain rfl : p = (tabQ (ps.take m)).length := by omega
        rw [hfp] at ho
        exact ⟨y, _, rfl, ho.read, hb⟩
    have HSK : Hid (∀ y wz, RdB wz y (blockL (ps.getD m [])) → Calls Tryz.prog 73 #[y, .agg #[.string u, .int .i64 s, .int .i64 k]] wz fun e w' => e = .returned (ansN (aboveL (ps.getD m []) u s k)) ∧ Below wz.heap.size wz w') := Lib.hid fun y wz hy => seek_yes y _ _ u s k wz hy (by have := (blk_len hpe).1; omega) hu ⟨hpe, rfl⟩
    obtain ⟨xu, xs, xk, xv, ok, hn⟩ := ansN_form (aboveL (ps.getD m []) u s k)
    rw [hn] at HSK
    have HANS : Hid (ansN (aboveL ps.flatten u s k) = .tuple #[.agg #[.string xu, .int .i64 xs, .int .i64 xk, .string xv], .bool ok]) := Lib.hid (by rw [hans, hn])
    clear hans
    generalize (tabQ (ps.take m)).length = at_ at *
    have HQ5 := Lib.hid q54
    clear hn hone hf hfp hpe q54 q64
    go_wp2_with (first | (go_at_call 66; (refine (HG.out _ HBW.out).mono ?_); rintro e w5 ⟨y5, n5, rfl, hy5, hb5⟩; have HY5 := Lib.hid hy5; have HB5 : Hid (Below w.heap.size w w5) := Lib.hid (HBW.out.trans (hb5.mono HBW.out.size)); have q55 := (hb5.block _ (blk_lt HQ5.out)).trans HQ5.out; have k0 := blk_cell (i := 0) q55; have k1 := blk_cell (i := 1) q55; have k2 := blk_cell (i := 2) q55; have HQ65 := Lib.hid ((hb5.block _ (blk_lt HQ6.out)).trans HQ6.out); clear hy5 hb5 q55) | (go_at_call 73; (refine (HSK.out _ _ HY5.out).mono ?_); rintro e w6 ⟨rfl, hb6⟩; have HB6 : Hid (Below w.heap.size w w6) := Lib.hid (HB5.out.trans (hb6.mono HB5.out.size)); have hr6 := (hb6.block _ (blk_lt HQ65.out)).trans HQ65.out; have s0 := blk_cell (i := 0) hr6; have t0 := blk_free (i := 0) hr6; have s1 := blk_cell (i := 1) hr6; have t1 := blk_free (i := 1) hr6; have s2 := blk_cell (i := 2) hr6; have t2 := blk_free (i := 2) hr6; have s3 := blk_cell (i := 3) hr6; have t3 := blk_free (i := 3) hr6; have HR6 := Lib.hid hr6; clear hb6 hr6))
    refine bodyPost_ret (results_row_tmp rfl _ _ (w.heap.size + 1 + 1) 39 #[.string xu, .int .i64 xs, .int .i64 xk, .string xv] (0, 0) _ rfl ?hgA Tryz.underlying39 rfl (by kernel_rfl)) rfl ?_
    case hgA => exact (set4 HR6.out rfl rfl rfl rfl).1
    exact ⟨by rw [HANS.out]; rfl, (set4 HR6.out rfl rfl rfl rfl).2 _ (by omega) _ HB6.out⟩
  · have hme : m = ps.length := by omega
    have d1 : ((m : Int) == ((rowsQ ps).length : Int)) = true := by
      have := HLEN.out
      have : (m : Int) = ((rowsQ ps).length : Int) := by omega
      simpa using this
    rw [if_neg hlt] at hans
    have HANS := Lib.hid hans
    clear hans
    clear hme hlt hml q64 q54
    go_wp2
    refine bodyPost_ret (results_row_tmp rfl _ _ (w.heap.size + 1 + 1) 39 #[.string ⟨#[]⟩, .int .i64 0, .int .i64 0, .string ⟨#[]⟩] (0, 0) _ rfl ?hgB Tryz.underlying39 rfl (by kernel_rfl)) rfl ?_
    case hgB => exact (set4 HQ6.out rfl rfl rfl rfl).1
    exact ⟨by rw [HANS.out]; rfl, (set4 HQ6.out rfl rfl rfl rfl).2 _ (by omega) _ HBW.out⟩
end Go.Proofs.YteeikmpfgbfeoaaGreat

/-
  Tables: Find: the newest entry of a User up to a number.
-/
namespace Go.Proofs.YteeikmpfgbfeoaaGreat
open Go.RowKit

theorem below_new {w a : World} {o : Obj} (h : Below w.heap.size w a) : Below w.heap.size w (a.alloc o) := h.alloc h.size o
theorem find_drop {α : Type} (p : α → Bool) : ∀ l : List α, l.find? (fun x => !p x) = (l.dropWhile p).head?
  | [] => rfl
  | a :: l => by
    rw [List.find?_cons, List.dropWhile_cons]
    cases h : p a with
    | false => simp
    | true => simpa using find_drop p l
theorem newest_above {es : List Ent} (hr : risingB es = true) (u : ByteArray) (s : Int) : newest es u s = (match aboveL es u s 2 with | none => none | some x => if x.u = u then some x else none) := by
  rw [newest_high (up_of_rising hr) fun x hx => by have := (may_facts (rising_all hr x hx)).2.2.2.1; omega]
  have e : aboveL es u s 2 = (highE ⟨u, s, 2, ⟨#[]⟩⟩ es).head? := find_drop _ es
  rw [e]
  cases highE ⟨u, s, 2, ⟨#[]⟩⟩ es with
  | nil => rfl
  | cons x r => rfl

set_option maxRecDepth 100000 in
set_option maxHeartbeats 600000 in
theorem find_any : FindTC := fun v b u s w hv hl hu _ => by
  have hbe1 := (Below.refl w.heap.size w).alloc (Nat.le_refl _) (.cells #[.string ⟨#[]⟩, .int .i64 0, .int .i64 0, .string ⟨#[]⟩] 39)
  have HBE1 := Lib.hid hbe1
  have HV := Lib.hid hv
  clear hbe1
  cases hg : getT b with
  | none =>
    have HR := Lib.hid (show findT b u s = none by unfold findT; rw [hg])
    have HO : Hid (∀ wz, Below w.heap.size w wz → Calls Tryz.prog 30 #[v] wz fun e w' => e = .returned (.tuple #[.agg #[.int .i64 0, .slice none 0 0, .slice none 0 0, .slice none 0 0], .bool false]) ∧ Below wz.heap.size wz w') := Lib.hid fun wz hz => by
      have h := open_any v b wz (HV.out.below hz (Nat.le_refl _)) hl
      unfold RetOpen at h
      rw [hg] at h
      exact h
    clear hg hv
    go_enter Tryz.func11, Tryz.ntmps11
    go_wp2_with (go_at_call 30; (refine (HO.out _ HBE1.out).mono ?_); rintro e w1 ⟨rfl, hb1⟩; have HB1 : Hid (Below w.heap.size w w1) := Lib.hid (HBE1.out.trans (hb1.mono (by simp))); have hrow := (hb1.block _ (by simp)).trans (heap_alloc_new w (.cells #[.string ⟨#[]⟩, .int .i64 0, .int .i64 0, .string ⟨#[]⟩] 39)); have s0 := blk_cell (i := 0) hrow; have t0 := blk_free (i := 0) hrow; have s1 := blk_cell (i := 1) hrow; have t1 := blk_free (i := 1) hrow; have s2 := blk_cell (i := 2) hrow; have t2 := blk_free (i := 2) hrow; have s3 := blk_cell (i := 3) hrow; have t3 := blk_free (i := 3) hrow; simp only [List.getElem?_toArray, List.getElem?_cons_zero, List.getElem?_cons_succ] at s0 s1 s2 s3; have hsz := blk_lt hrow; have HROW := Lib.hid hrow; clear hrow; clear hb1)
    refine bodyPost_ret (results_row_tmp2 rfl _ _ w.heap.size 39 #[.string ⟨#[]⟩, .int .i64 0, .int .i64 0, .string ⟨#[]⟩] (0, 0) _ rfl ?hgA Tryz.underlying39 rfl (by kernel_rfl)) rfl ?_
    case hgA => exact alloc_keep (set4 HROW.out rfl rfl rfl rfl).1
    exact ⟨by rw [HR.out]; rfl, below_new ((set4 HROW.out rfl rfl rfl rfl).2 _ (Nat.le_refl _) _ (HB1.out))⟩
  | some x =>
    obtain ⟨es, f⟩ := x
    have HGR : Hid (risingB es = true ∧ f.length ≤ 1000000) := Lib.hid (by
      obtain ⟨per, h⟩ := getT_is hg
      have h1 := IsTabP.filter_len (show IsTabP b es per f from h)
      exact ⟨h.2.2.1.1, by omega⟩)
    have HO : Hid (∀ wz, Below w.heap.size w wz → Calls Tryz.prog 30 #[v] wz fun e w' => ∃ (ps : List (List Ent)) (per : Nat) (ve vr vf : Value), e = .returned (.tuple #[.agg #[.int .i64 (per : Int), ve, vr, vf], .bool true]) ∧ OwnE w' wz.heap.size ve es ∧ OwnR w' wz.heap.size vr (rowsQ ps) ∧ OwnB w' wz.heap.size 5 vf f ∧ Seen b ps ∧ ps.flatten = es ∧ Below wz.heap.size wz w') := Lib.hid fun wz hz => by
      have h := open_any v b wz (HV.out.below hz (Nat.le_refl _)) hl
      unfold RetOpen at h
      rw [hg] at h
      refine h.mono ?_
      rintro e w' ⟨ps, per, ve, vr, vf, rfl, h1, h2, h3, h4, h5, _, h6⟩
      exact ⟨ps, per, ve, vr, vf, rfl, h1, h2, h3, h4, h5, h6⟩
    cases hm : mayL f (hashL u.data.toList) with
    | false =>
      have HR := Lib.hid (show findT b u s = some none by unfold findT; rw [hg]; simp only; rw [hm]; rfl)
      have HM : Hid (∀ y wz, RdB wz y f → Calls Tryz.prog 34 #[y, .string u] wz fun e w' => e = .returned (.bool false) ∧ Below wz.heap.size wz w') := Lib.hid fun y wz hy => by
        have h := fmay_any y f u (by unfold maxLen; omega) wz hy HGR.out.2
        rw [hm] at h
        exact h
      clear hg hm hv
      go_enter Tryz.func11, Tryz.ntmps11
      go_wp2_with (first | (go_at_call 30; (refine (HO.out _ HBE1.out).mono ?_); rintro e w1 ⟨ps, per, ve, vr, vf, rfl, ho1, hr1, hf1, hs1, hfl1, hb1⟩; (obtain ⟨ea, ec, hve, _, _⟩ := ho1.form); subst hve; (obtain ⟨ra, rc, hvr, _, _⟩ := hr1.form); subst hvr; (obtain ⟨fa, fc, hvf, _, _⟩ := hf1.read.form); subst hvf; have HB1 : Hid (Below w.heap.size w w1) := Lib.hid (HBE1.out.trans (hb1.mono (by simp))); have HP1 := Lib.hid ((hb1.block _ (by simp)).trans (heap_alloc_new w (.cells #[.string ⟨#[]⟩, .int .i64 0, .int .i64 0, .string ⟨#[]⟩] 39))); have HS1 := Lib.hid hs1; have HFL := Lib.hid hfl1; have hba : Below w1.heap.size w1 (w1.alloc (.cells #[.int .i64 (per : Int), .slice ea es.length ec, .slice ra (rowsQ ps).length rc, .slice fa f.length fc] 68)) := (Below.refl _ _).alloc (Nat.le_refl _) _; have HB2 : Hid (Below w.heap.size w (w1.alloc (.cells #[.int .i64 (per : Int), .slice ea es.length ec, .slice ra (rowsQ ps).length rc, .slice fa f.length fc] 68))) := Lib.hid (HB1.out.trans (hba.mono HB1.out.size)); have HR2 := Lib.hid (RdR.below hr1.read hba (Nat.le_refl _)); have HF2 := Lib.hid (RdB.below hf1.read hba (Nat.le_refl _)); have HQ2 := Lib.hid (heap_alloc_new w1 (.cells #[.int .i64 (per : Int), .slice ea es.length ec, .slice ra (rowsQ ps).length rc, .slice fa f.length fc] 68)); have HP2 := Lib.hid ((hba.block _ (blk_lt HP1.out)).trans HP1.out); clear ho1 hr1 hf1 hb1 hs1 hfl1 hba) | (go_at_call 34; (refine (HM.out _ _ HF2.out).mono ?_); rintro e w3 ⟨rfl, hb3⟩; have HB3 : Hid (Below w.heap.size w w3) := Lib.hid (HB2.out.trans (hb3.mono HB2.out.size)); have hrow := (hb3.block _ (blk_lt HP2.out)).trans HP2.out; have s0 := blk_cell (i := 0) hrow; have t0 := blk_free (i := 0) hrow; have s1 := blk_cell (i := 1) hrow; have t1 := blk_free (i := 1) hrow; have s2 := blk_cell (i := 2) hrow; have t2 := blk_free (i := 2) hrow; have s3 := blk_cell (i := 3) hrow; have t3 := blk_free (i := 3) hrow; simp only [List.getElem?_toArray, List.getElem?_cons_zero, List.getElem?_cons_succ] at s0 s1 s2 s3; have hsz := blk_lt hrow; have HROW := Lib.hid hrow; clear hrow; clear hb3))
      refine bodyPost_ret (results_row_tmp2 rfl _ _ w.heap.size 39 #[.string ⟨#[]⟩, .int .i64 0, .int .i64 0, .string ⟨#[]⟩] (0, 0) _ rfl ?hgB Tryz.underlying39 rfl (by kernel_rfl)) rfl ?_
      case hgB => exact (set4 HROW.out rfl rfl rfl rfl).1
      exact ⟨by rw [HR.out]; rfl, (set4 HROW.out rfl rfl rfl rfl).2 _ (Nat.le_refl _) _ (HB3.out)⟩
    | true =>
      have HM : Hid (∀ y wz, RdB wz y f → Calls Tryz.prog 34 #[y, .string u] wz fun e w' => e = .returned (.bool true) ∧ Below wz.heap.size wz w') := Lib.hid fun y wz hy => by
        have h := fmay_any y f u (by unfold maxLen; omega) wz hy HGR.out.2
        rw [hm] at h
        exact h
      have HNA := Lib.hid (newest_above HGR.out.1 u s)
      have HSK0 : ∀ (rv : Value) (ps : List (List Ent)) wz, Below w.heap.size w wz → Seen b ps → ps.flatten = es → RdR wz rv (rowsQ ps) → Calls Tryz.prog 35 #[v, rv, .agg #[.string u, .int .i64 s, .int .i64 2]] wz fun e w' => e = .returned (ansN (aboveL es u s 2)) ∧ Below wz.heap.size wz w' := fun rv ps wz hz hs he hr => by
        have h := seekt_any (s := s) (k := 2) (HV.out.below hz (Nat.le_refl _)) hl hr hs (by rw [he]; exact HGR.out.1) hu
        rw [he] at h
        exact h
      cases ha : aboveL es u s 2 with
      | none =>
        have HR := Lib.hid (show findT b u s = some none by unfold findT; rw [hg]; simp only; rw [hm, HNA.out, ha]; rfl)
        rw [ha] at HSK0
        have HSK : Hid (∀ (rv : Value) (ps : List (List Ent)) wz, Below w.heap.size w wz → Seen b ps → ps.flatten = es → RdR wz rv (rowsQ ps) → Calls Tryz.prog 35 #[v, rv, .agg #[.string u, .int .i64 s, .int .i64 2]] wz fun e w' => e = .returned (.tuple #[.agg #[.string ⟨#[]⟩, .int .i64 0, .int .i64 0, .string ⟨#[]⟩], .bool false]) ∧ Below wz.heap.size wz w') := Lib.hid HSK0
        clear hg hm hv ha HSK0 HNA
        go_enter Tryz.func11, Tryz.ntmps11
        go_wp2_with (first | (go_at_call 30; (refine (HO.out _ HBE1.out).mono ?_); rintro e w1 ⟨ps, per, ve, vr, vf, rfl, ho1, hr1, hf1, hs1, hfl1, hb1⟩; (obtain ⟨ea, ec, hve, _, _⟩ := ho1.form); subst hve; (obtain ⟨ra, rc, hvr, _, _⟩ := hr1.form); subst hvr; (obtain ⟨fa, fc, hvf, _, _⟩ := hf1.read.form); subst hvf; have HB1 : Hid (Below w.heap.size w w1) := Lib.hid (HBE1.out.trans (hb1.mono (by simp))); have HP1 := Lib.hid ((hb1.block _ (by simp)).trans (heap_alloc_new w (.cells #[.string ⟨#[]⟩, .int .i64 0, .int .i64 0, .string ⟨#[]⟩] 39))); have HS1 := Lib.hid hs1; have HFL := Lib.hid hfl1; have hba : Below w1.heap.size w1 (w1.alloc (.cells #[.int .i64 (per : Int), .slice ea es.length ec, .slice ra (rowsQ ps).length rc, .slice fa f.length fc] 68)) := (Below.refl _ _).alloc (Nat.le_refl _) _; have HB2 : Hid (Below w.heap.size w (w1.alloc (.cells #[.int .i64 (per : Int), .slice ea es.length ec, .slice ra (rowsQ ps).length rc, .slice fa f.length fc] 68))) := Lib.hid (HB1.out.trans (hba.mono HB1.out.size)); have HR2 := Lib.hid (RdR.below hr1.read hba (Nat.le_refl _)); have HF2 := Lib.hid (RdB.below hf1.read hba (Nat.le_refl _)); have HQ2 := Lib.hid (heap_alloc_new w1 (.cells #[.int .i64 (per : Int), .slice ea es.length ec, .slice ra (rowsQ ps).length rc, .slice fa f.length fc] 68)); have HP2 := Lib.hid ((hba.block _ (blk_lt HP1.out)).trans HP1.out); clear ho1 hr1 hf1 hb1 hs1 hfl1 hba) | (go_at_call 34; (refine (HM.out _ _ HF2.out).mono ?_); rintro e w3 ⟨rfl, hb3⟩; have HB3 : Hid (Below w.heap.size w w3) := Lib.hid (HB2.out.trans (hb3.mono HB2.out.size)); have HR3 := Lib.hid (HR2.out.below hb3 (Nat.le_refl _)); have HQ3 := Lib.hid ((hb3.block _ (blk_lt HQ2.out)).trans HQ2.out); have HP3 := Lib.hid ((hb3.block _ (blk_lt HP2.out)).trans HP2.out); have c2 := blk_cell (i := 2) HQ3.out; simp only [List.getElem?_toArray, List.getElem?_cons_zero, List.getElem?_cons_succ] at c2; clear hb3) | (go_at_call 35; (refine (HSK.out _ _ _ HB3.out HS1.out HFL.out HR3.out).mono ?_); rintro e w4 ⟨rfl, hb4⟩; have HB4 : Hid (Below w.heap.size w w4) := Lib.hid (HB3.out.trans (hb4.mono HB3.out.size)); have hba4 : Below w4.heap.size w4 (w4.alloc (.cells #[.string ⟨#[]⟩, .int .i64 0, .int .i64 0, .string ⟨#[]⟩] 39)) := (Below.refl _ _).alloc (Nat.le_refl _) _; have hrow := (hb4.block _ (blk_lt HP3.out)).trans HP3.out; have s0 := blk_cell (i := 0) hrow; have t0 := blk_free (i := 0) hrow; have s1 := blk_cell (i := 1) hrow; have t1 := blk_free (i := 1) hrow; have s2 := blk_cell (i := 2) hrow; have t2 := blk_free (i := 2) hrow; have s3 := blk_cell (i := 3) hrow; have t3 := blk_free (i := 3) hrow; simp only [List.getElem?_toArray, List.getElem?_cons_zero, List.getElem?_cons_succ] at s0 s1 s2 s3; have hsz := blk_lt hrow; have HROW := Lib.hid hrow; clear hrow; have HB5 := Lib.hid (HB4.out.trans (hba4.mono HB4.out.size)); clear hb4 hba4))
        refine bodyPost_ret (results_row_tmp2 rfl _ _ w.heap.size 39 #[.string ⟨#[]⟩, .int .i64 0, .int .i64 0, .string ⟨#[]⟩] (0, 0) _ rfl ?hgC Tryz.underlying39 rfl (by kernel_rfl)) rfl ?_
        case hgC => exact alloc_keep (set4 HROW.out rfl rfl rfl rfl).1
        exact ⟨by rw [HR.out]; rfl, below_new ((set4 HROW.out rfl rfl rfl rfl).2 _ (Nat.le_refl _) _ (HB4.out))⟩
      | some e =>
        rw [ha] at HSK0
        obtain ⟨xu, xs, xk, xv⟩ := e
        have HSK : Hid (∀ (rv : Value) (ps : List (List Ent)) wz, Below w.heap.size w wz → Seen b ps → ps.flatten = es → RdR wz rv (rowsQ ps) → Calls Tryz.prog 35 #[v, rv, .agg #[.string u, .int .i64 s, .int .i64 2]] wz fun e w' => e = .returned (.tuple #[.agg #[.string xu, .int .i64 xs, .int .i64 xk, .string xv], .bool true]) ∧ Below wz.heap.size wz w') := Lib.hid HSK0
        by_cases hxu : xu = u
        · have HR := Lib.hid (show findT b u s = some (some ⟨xu, xs, xk, xv⟩) by unfold findT; rw [hg]; simp only; rw [hm, HNA.out, ha]; simp only; rw [if_pos hxu]; rfl)
          subst hxu
          clear hg hm hv ha HSK0 HNA
          go_enter Tryz.func11, Tryz.ntmps11
          go_wp2_with (first | (go_at_call 30; (refine (HO.out _ HBE1.out).mono ?_); rintro e w1 ⟨ps, per, ve, vr, vf, rfl, ho1, hr1, hf1, hs1, hfl1, hb1⟩; (obtain ⟨ea, ec, hve, _, _⟩ := ho1.form); subst hve; (obtain ⟨ra, rc, hvr, _, _⟩ := hr1.form); subst hvr; (obtain ⟨fa, fc, hvf, _, _⟩ := hf1.read.form); subst hvf; have HB1 : Hid (Below w.heap.size w w1) := Lib.hid (HBE1.out.trans (hb1.mono (by simp))); have HP1 := Lib.hid ((hb1.block _ (by simp)).trans (heap_alloc_new w (.cells #[.string ⟨#[]⟩, .int .i64 0, .int .i64 0, .string ⟨#[]⟩] 39))); have HS1 := Lib.hid hs1; have HFL := Lib.hid hfl1; have hba : Below w1.heap.size w1 (w1.alloc (.cells #[.int .i64 (per : Int), .slice ea es.length ec, .slice ra (rowsQ ps).length rc, .slice fa f.length fc] 68)) := (Below.refl _ _).alloc (Nat.le_refl _) _; have HB2 : Hid (Below w.heap.size w (w1.alloc (.cells #[.int .i64 (per : Int), .slice ea es.length ec, .slice ra (rowsQ ps).length rc, .slice fa f.length fc] 68))) := Lib.hid (HB1.out.trans (hba.mono HB1.out.size)); have HR2 := Lib.hid (RdR.below hr1.read hba (Nat.le_refl _)); have HF2 := Lib.hid (RdB.below hf1.read hba (Nat.le_refl _)); have HQ2 := Lib.hid (heap_alloc_new w1 (.cells #[.int .i64 (per : Int), .slice ea es.length ec, .slice ra (rowsQ ps).length rc, .slice fa f.length fc] 68)); have HP2 := Lib.hid ((hba.block _ (blk_lt HP1.out)).trans HP1.out); clear ho1 hr1 hf1 hb1 hs1 hfl1 hba) | (go_at_call 34; (refine (HM.out _ _ HF2.out).mono ?_); rintro e w3 ⟨rfl, hb3⟩; have HB3 : Hid (Below w.heap.size w w3) := Lib.hid (HB2.out.trans (hb3.mono HB2.out.size)); have HR3 := Lib.hid (HR2.out.below hb3 (Nat.le_refl _)); have HQ3 := Lib.hid ((hb3.block _ (blk_lt HQ2.out)).trans HQ2.out); have HP3 := Lib.hid ((hb3.block _ (blk_lt HP2.out)).trans HP2.out); have c2 := blk_cell (i := 2) HQ3.out; simp only [List.getElem?_toArray, List.getElem?_cons_zero, List.getElem?_cons_succ] at c2; clear hb3) | (go_at_call 35; (refine (HSK.out _ _ _ HB3.out HS1.out HFL.out HR3.out).mono ?_); rintro e w4 ⟨rfl, hb4⟩; have HB4 : Hid (Below w.heap.size w w4) := Lib.hid (HB3.out.trans (hb4.mono HB3.out.size)); have hba4 : Below w4.heap.size w4 (w4.alloc (.cells #[.string xu, .int .i64 xs, .int .i64 xk, .string xv] 39)) := (Below.refl _ _).alloc (Nat.le_refl _) _; have hrow := (hb4.block _ (blk_lt HP3.out)).trans HP3.out; have s0 := blk_cell (i := 0) hrow; have t0 := blk_free (i := 0) hrow; have s1 := blk_cell (i := 1) hrow; have t1 := blk_free (i := 1) hrow; have s2 := blk_cell (i := 2) hrow; have t2 := blk_free (i := 2) hrow; have s3 := blk_cell (i := 3) hrow; have t3 := blk_free (i := 3) hrow; simp only [List.getElem?_toArray, List.getElem?_cons_zero, List.getElem?_cons_succ] at s0 s1 s2 s3; have hsz := blk_lt hrow; have HROW := Lib.hid hrow; clear hrow; have HB5 := Lib.hid (HB4.out.trans (hba4.mono HB4.out.size)); clear hb4 hba4))
          refine bodyPost_ret (results_row_tmp2 rfl _ _ w.heap.size 39 #[.string xu, .int .i64 xs, .int .i64 xk, .string xv] (0, 0) _ rfl ?hgD Tryz.underlying39 rfl (by kernel_rfl)) rfl ?_
          case hgD => exact alloc_keep (set4 HROW.out rfl rfl rfl rfl).1
          exact ⟨by rw [HR.out]; rfl, below_new ((set4 HROW.out rfl rfl rfl rfl).2 _ (Nat.le_refl _) _ (HB4.out))⟩
        · have HR := Lib.hid (show findT b u s = some none by unfold findT; rw [hg]; simp only; rw [hm, HNA.out, ha]; simp only; rw [if_neg hxu]; rfl)
          have hne : (xu.toList == u.toList) = false := by
            rw [beq_eq_false_iff_ne, toList_data, toList_data]
            exact fun e => hxu (ByteArray.ext (Array.toList_inj.1 e))
          clear hg hm hv ha HSK0 HNA
          go_enter Tryz.func11, Tryz.ntmps11
          go_wp2_with (first | (go_at_call 30; (refine (HO.out _ HBE1.out).mono ?_); rintro e w1 ⟨ps, per, ve, vr, vf, rfl, ho1, hr1, hf1, hs1, hfl1, hb1⟩; (obtain ⟨ea, ec, hve, _, _⟩ := ho1.form); subst hve; (obtain ⟨ra, rc, hvr, _, _⟩ := hr1.form); subst hvr; (obtain ⟨fa, fc, hvf, _, _⟩ := hf1.read.form); subst hvf; have HB1 : Hid (Below w.heap.size w w1) := Lib.hid (HBE1.out.trans (hb1.mono (by simp))); have HP1 := Lib.hid ((hb1.block _ (by simp)).trans (heap_alloc_new w (.cells #[.string ⟨#[]⟩, .int .i64 0, .int .i64 0, .string ⟨#[]⟩] 39))); have HS1 := Lib.hid hs1; have HFL := Lib.hid hfl1; have hba : Below w1.heap.size w1 (w1.alloc (.cells #[.int .i64 (per : Int), .slice ea es.length ec, .slice ra (rowsQ ps).length rc, .slice fa f.length fc] 68)) := (Below.refl _ _).alloc (Nat.le_refl _) _; have HB2 : Hid (Below w.heap.size w (w1.alloc (.cells #[.int .i64 (per : Int), .slice ea es.length ec, .slice ra (rowsQ ps).length rc, .slice fa f.length fc] 68))) := Lib.hid (HB1.out.trans (hba.mono HB1.out.size)); have HR2 := Lib.hid (RdR.below hr1.read hba (Nat.le_refl _)); have HF2 := Lib.hid (RdB.below hf1.read hba (Nat.le_refl _)); have HQ2 := Lib.hid (heap_alloc_new w1 (.cells #[.int .i64 (per : Int), .slice ea es.length ec, .slice ra (rowsQ ps).length rc, .slice fa f.length fc] 68)); have HP2 := Lib.hid ((hba.block _ (blk_lt HP1.out)).trans HP1.out); clear ho1 hr1 hf1 hb1 hs1 hfl1 hba) | (go_at_call 34; (refine (HM.out _ _ HF2.out).mono ?_); rintro e w3 ⟨rfl, hb3⟩; have HB3 : Hid (Below w.heap.size w w3) := Lib.hid (HB2.out.trans (hb3.mono HB2.out.size)); have HR3 := Lib.hid (HR2.out.below hb3 (Nat.le_refl _)); have HQ3 := Lib.hid ((hb3.block _ (blk_lt HQ2.out)).trans HQ2.out); have HP3 := Lib.hid ((hb3.block _ (blk_lt HP2.out)).trans HP2.out); have c2 := blk_cell (i := 2) HQ3.out; simp only [List.getElem?_toArray, List.getElem?_cons_zero, List.getElem?_cons_succ] at c2; clear hb3) | (go_at_call 35; (refine (HSK.out _ _ _ HB3.out HS1.out HFL.out HR3.out).mono ?_); rintro e w4 ⟨rfl, hb4⟩; have HB4 : Hid (Below w.heap.size w w4) := Lib.hid (HB3.out.trans (hb4.mono HB3.out.size)); have hba4 : Below w4.heap.size w4 (w4.alloc (.cells #[.string xu, .int .i64 xs, .int .i64 xk, .string xv] 39)) := (Below.refl _ _).alloc (Nat.le_refl _) _; have hrow := (hb4.block _ (blk_lt HP3.out)).trans HP3.out; have s0 := blk_cell (i := 0) hrow; have t0 := blk_free (i := 0) hrow; have s1 := blk_cell (i := 1) hrow; have t1 := blk_free (i := 1) hrow; have s2 := blk_cell (i := 2) hrow; have t2 := blk_free (i := 2) hrow; have s3 := blk_cell (i := 3) hrow; have t3 := blk_free (i := 3) hrow; simp only [List.getElem?_toArray, List.getElem?_cons_zero, List.getElem?_cons_succ] at s0 s1 s2 s3; have hsz := blk_lt hrow; have HROW := Lib.hid hrow; clear hrow; have HB5 := Lib.hid (HB4.out.trans (hba4.mono HB4.out.size)); clear hb4 hba4))
          refine bodyPost_ret (results_row_tmp2 rfl _ _ w.heap.size 39 #[.string ⟨#[]⟩, .int .i64 0, .int .i64 0, .string ⟨#[]⟩] (0, 0) _ rfl ?hgE Tryz.underlying39 rfl (by kernel_rfl)) rfl ?_
          case hgE => exact alloc_keep (set4 HROW.out rfl rfl rfl rfl).1
          exact ⟨by rw [HR.out]; rfl, below_new ((set4 HROW.out rfl rfl rfl rfl).2 _ (Nat.le_refl _) _ (HB4.out))⟩
end Go.Proofs.YteeikmpfgbfeoaaGreat

/-
  Tables: Ends: the first User and the last one.
-/
namespace Go.Proofs.YteeikmpfgbfeoaaGreat
open Go.RowKit

set_option maxRecDepth 100000 in
set_option maxHeartbeats 400000 in
theorem ends_any : EndsTC := fun v es w hv _ => by
  have HV := Lib.hid hv
  obtain ⟨va, vc, rfl, hc1, hc2⟩ := hv.form
  unfold maxLen at hc2
  by_cases hne : es = []
  · subst hne
    clear hv
    go_enter Tryz.func13, Tryz.ntmps13
    go_wp2
    go_ret2
    exact ⟨rfl, Below.refl _ _⟩
  · have hp := List.length_pos_iff.2 hne
    obtain ⟨_, _, hva, hone⟩ := hv.one
    cases hva
    obtain ⟨m, hm⟩ : ∃ m, es.length = m + 1 := ⟨es.length - 1, by omega⟩
    obtain ⟨b, off, hb0, hbw, y0, _⟩ := hone 0 (by omega)
    obtain ⟨b', off', hb1, _, z0, _⟩ := hone m (by omega)
    subst hb0
    cases hb1
    rw [Nat.zero_mul, Nat.add_zero] at y0
    rw [hm] at hc1 ⊢
    rw [Nat.add_sub_cancel]
    generalize (es.getD 0 Ent.none_).u = yu at *
    generalize (es.getD m Ent.none_).u = xu at *
    have e1 : IntKind.i64.wrap (((m + 1 : Nat) : Int) - 1) = (m : Int) := by rw [IntWalk.i64_in _ (by omega)]; omega
    have e2 : ((m + 1 : Nat) : Int) - 1 = (m : Int) := by omega
    have e5 : (m : Int) < (m : Int) + 1 := by omega
    have e4 : IntKind.i64.wrap (m : Int) = (m : Int) := IntWalk.i64_in _ (by omega)
    have e3 : (((m + 1 : Nat) : Int) == 0) = false := by
      have : ((m + 1 : Nat) : Int) ≠ 0 := by omega
      simpa using this
    clear hone hm hv hp hne HV
    go_enter Tryz.func13, Tryz.ntmps13
    go_upto_region 3 with (fail)
    refine wp_region_plan [(true, 0), (true, 1), (true, 2), (true, 3), (true, 4), (true, 5), (true, 6), (true, 7), (true, 8), (true, 9), (true, 10), (true, 11), (true, 12), (true, 13), (true, 14)] (by kernel_rfl) (by kernel_rfl) (by kernel_rfl) (by kernel_rfl) (by kernel_rfl) ?_
    simp only [planO, List.drop_succ_cons, List.drop_zero]
    refine PlanO.take (v := ?v0) (by kernel_rfl) ?y0 ?r0
    case y0 => (intro wz hz; have c0 := Ext.at_ hz y0; have c1 := Ext.at_ hz z0; go_simp; try with_reducible rfl)
    (try simp only [Act.put, List.setIfInBounds_toArray, List.set_cons_zero, List.set_cons_succ])
    refine PlanO.take (v := ?v1) (by kernel_rfl) ?y1 ?r1
    case y1 => (intro wz hz; have c0 := Ext.at_ hz y0; have c1 := Ext.at_ hz z0; go_simp; try with_reducible rfl)
    (try simp only [Act.put, List.setIfInBounds_toArray, List.set_cons_zero, List.set_cons_succ])
    refine PlanO.take (v := ?v2) (by kernel_rfl) ?y2 ?r2
    case y2 => (intro wz hz; have c0 := Ext.at_ hz y0; have c1 := Ext.at_ hz z0; go_simp; try with_reducible rfl)
    (try simp only [Act.put, List.setIfInBounds_toArray, List.set_cons_zero, List.set_cons_succ])
    refine PlanO.take (v := ?v3) (by kernel_rfl) ?y3 ?r3
    case y3 => (intro wz hz; have c0 := Ext.at_ hz y0; have c1 := Ext.at_ hz z0; go_simp; try with_reducible rfl)
    (try simp only [Act.put, List.setIfInBounds_toArray, List.set_cons_zero, List.set_cons_succ])
    refine PlanO.take (v := ?v4) (by kernel_rfl) ?y4 ?r4
    case y4 => (intro wz hz; have c0 := Ext.at_ hz y0; have c1 := Ext.at_ hz z0; go_simp; try with_reducible rfl)
    (try simp only [Act.put, List.setIfInBounds_toArray, List.set_cons_zero, List.set_cons_succ])
    refine PlanO.take (v := ?v5) (by kernel_rfl) ?y5 ?r5
    case y5 => (intro wz hz; have c0 := Ext.at_ hz y0; have c1 := Ext.at_ hz z0; go_simp; try with_reducible rfl)
    (try simp only [Act.put, List.setIfInBounds_toArray, List.set_cons_zero, List.set_cons_succ])
    refine PlanO.take (v := ?v6) (by kernel_rfl) ?y6 ?r6
    case y6 => (intro wz hz; have c0 := Ext.at_ hz y0; have c1 := Ext.at_ hz z0; go_simp; try with_reducible rfl)
    (try simp only [Act.put, List.setIfInBounds_toArray, List.set_cons_zero, List.set_cons_succ])
    refine PlanO.take (v := ?v7) (by kernel_rfl) ?y7 ?r7
    case y7 => (intro wz hz; have c0 := Ext.at_ hz y0; have c1 := Ext.at_ hz z0; go_simp; try with_reducible rfl)
    (try simp only [Act.put, List.setIfInBounds_toArray, List.set_cons_zero, List.set_cons_succ])
    refine PlanO.take (v := ?v8) (by kernel_rfl) ?y8 ?r8
    case y8 => (intro wz hz; have c0 := Ext.at_ hz y0; have c1 := Ext.at_ hz z0; go_simp; try with_reducible rfl)
    (try simp only [Act.put, List.setIfInBounds_toArray, List.set_cons_zero, List.set_cons_succ])
    refine PlanO.take (v := ?v9) (by kernel_rfl) ?y9 ?r9
    case y9 => (intro wz hz; have c0 := Ext.at_ hz y0; have c1 := Ext.at_ hz z0; go_simp; try with_reducible rfl)
    (try simp only [Act.put, List.setIfInBounds_toArray, List.set_cons_zero, List.set_cons_succ])
    refine PlanO.take (v := ?v10) (by kernel_rfl) ?y10 ?r10
    case y10 => (intro wz hz; have c0 := Ext.at_ hz y0; have c1 := Ext.at_ hz z0; go_simp; try with_reducible rfl)
    (try simp only [Act.put, List.setIfInBounds_toArray, List.set_cons_zero, List.set_cons_succ])
    refine PlanO.take (v := ?v11) (by kernel_rfl) ?y11 ?r11
    case y11 => (intro wz hz; have c0 := Ext.at_ hz y0; have c1 := Ext.at_ hz z0; go_simp; try with_reducible rfl)
    (try simp only [Act.put, List.setIfInBounds_toArray, List.set_cons_zero, List.set_cons_succ])
    refine PlanO.take (v := ?v12) (by kernel_rfl) ?y12 ?r12
    case y12 => (intro wz hz; have c0 := Ext.at_ hz y0; have c1 := Ext.at_ hz z0; go_simp; try with_reducible rfl)
    (try simp only [Act.put, List.setIfInBounds_toArray, List.set_cons_zero, List.set_cons_succ])
    refine PlanO.take (v := ?v13) (by kernel_rfl) ?y13 ?r13
    case y13 => (intro wz hz; have c0 := Ext.at_ hz y0; have c1 := Ext.at_ hz z0; go_simp; try with_reducible rfl)
    (try simp only [Act.put, List.setIfInBounds_toArray, List.set_cons_zero, List.set_cons_succ])
    refine PlanO.take (v := ?v14) (by kernel_rfl) ?y14 ?r14
    case y14 => (intro wz hz; have c0 := Ext.at_ hz y0; have c1 := Ext.at_ hz z0; go_simp; try with_reducible rfl)
    (try simp only [Act.put, List.setIfInBounds_toArray, List.set_cons_zero, List.set_cons_succ])
    refine PlanO.done (NoPanic.normal ?_)
    go_wp2
    go_ret2
    exact ⟨rfl, belowT ((Below.refl _ _)) (Below.refl _ _).drew⟩
end Go.Proofs.YteeikmpfgbfeoaaGreat

/-
  Tables: the landed code's four contracts together.
-/
namespace Go.Proofs.YteeikmpfgbfeoaaGreat
theorem tab_land : PutTC ∧ AllTC ∧ FindTC ∧ EndsTC := ⟨puttab_any, all_any, find_any, ends_any⟩
end Go.Proofs.YteeikmpfgbfeoaaGreat
