import Derived.Test.YteeikmpfgbfeoaaMg06
import Derived.Test.YteeikmpfgbfeoaaMoves
import Derived.Test.YteeikmpfgbfeoaaRegion
import Derived.Deep.Cut
import Derived.Test.YteeikmpfgbfeoaaBlkGet
import Derived.Test.YteeikmpfgbfeoaaFixedOut
import Derived.Test.YteeikmpfgbfeoaaCells
import Derived.Test.YteeikmpfgbfeoaaMg09
import Derived.Test.YteeikmpfgbfeoaaMg07
import Derived.Test.YteeikmpfgbfeoaaMg01

/-
  Blocks: all entries that bytes tell, as the program reads them.
-/
namespace Go.Proofs.Yteeikmpfgbfeoaa
open Go.RowKit

theorem readP_bounds {c last : List UInt8} {p g : Nat} {e : Ent} (h : readP c last p = some (e, g)) : e.u.size ≤ last.length + 64 ∧ e.v.size ≤ c.length ∧ 0 ≤ e.s ∧ e.s ≤ 9007199254740992 ∧ 0 ≤ e.k ∧ e.k ≤ 2 ∧ p < g ∧ g ≤ c.length := by
  unfold readP at h
  cases h1 : getAt c (p : Int) with
  | none => rw [h1] at h; cases h
  | some x =>
    obtain ⟨s, a⟩ := x
    rw [h1] at h; simp only at h
    split at h
    · cases h
    · rename_i hs
      cases h2 : keyAt c (a : Int) with
      | none => rw [h2] at h; cases h
      | some x =>
        obtain ⟨⟨u, q, k⟩, d⟩ := x
        rw [h2] at h; simp only at h
        cases h4 : textAt c (d : Int) with
        | none => rw [h4] at h; cases h
        | some x =>
          obtain ⟨v, g'⟩ := x
          rw [h4] at h; simp only at h
          simp only [Option.some.injEq, Prod.mk.injEq] at h
          obtain ⟨rfl, rfl⟩ := h
          obtain ⟨u', q', k', d', ok, e2, t2, n2, bu, bd, bq1, bq2, bk1, bk2⟩ := ansK_form c (a : Int)
          cases ok with
          | false => rw [n2 rfl] at h2; cases h2
          | true =>
            rw [(t2 rfl).1] at h2
            simp only [Option.some.injEq, Prod.mk.injEq] at h2
            obtain ⟨⟨rfl, rfl, rfl⟩, rfl⟩ := h2
            obtain ⟨p', hp', g1, g2, _⟩ := getAt_some h1
            have hd := (t2 rfl).2
            obtain ⟨b1, b2, b3⟩ := textAt_bound h4
            refine ⟨?_, ?_, bq1, bq2, bk1, bk2, by omega, b2⟩
            · show (strB (last.take s ++ u')).size ≤ _
              rw [strB_size, List.length_append, List.length_take]
              omega
            · show (strB v).size ≤ _
              rw [strB_size]
              exact b1

theorem wf_i64 {n : Int} (h1 : -9223372036854775808 ≤ n) (h2 : n ≤ 9223372036854775807) : (Lit.int .i64 n).wf = true := by
  simp only [Lit.wf, IntKind.min, IntKind.max, IntKind.signed, IntKind.bits]
  simp
  omega

section
variable {W w w' : World} {B : Nat} {x v' : Value} {l n : List Ent}
theorem ownE_moved {x' : Value} {e : Ent} (h : w.ownsRow B 34 4 x l.length (l.flatMap Ent.cells)) (hB : B ≤ w.heap.size) (ho : w'.ownsRow 0 34 4 x' (l.length + 1) (l.flatMap Ent.cells ++ [e].flatMap Ent.cells)) (hm : Moves w w' x x') : OwnE w' B x' (l ++ [e]) := by
  have := own_base (B' := B) ho fun k hk => by
    rcases hm.at_ k hk with h1 | h1
    · exact (World.ownsRow.lt h k h1).1
    · exact Nat.le_trans hB h1.1
  unfold OwnE
  rw [List.length_append, List.flatMap_append]
  exact this
theorem belowE_moved (h : w.ownsRow B 34 4 x l.length (l.flatMap Ent.cells)) (hB : B ≤ w.heap.size) (hbe : Below B W w) (hm : Moves w w' x v') : Below B W w' := by
  have hk := hm.kept (R := fun k => k < w.heap.size ∧ x.ownBlock ≠ some k) fun k hk => hk
  exact Kept.below ((Kept.of hbe (R := fun k => k < B) fun _ h => h).trans (hk.mono fun k hk => ⟨Nat.lt_of_lt_of_le hk hB, fun e => by have := (World.ownsRow.lt h k e).1; omega⟩)) fun _ h => h
end

/-- What a call tells that reads all entries. -/
def RetAll (w : World) (c : List UInt8) (e : Ending) (w' : World) : Prop :=
  ∃ (acc : List Ent) (x : Value) (ok : Bool), e = .returned (.tuple #[x, .bool ok]) ∧ OwnE w' w.heap.size x acc ∧ (∀ e ∈ acc, e.fits) ∧ acc.length ≤ 64 ∧ (∀ es, IsBody c es → es.length ≤ 64 → ok = true ∧ es = acc) ∧ (ok = false → acc = []) ∧ Below w.heap.size w w'
theorem RetAll.no {w w' : World} {c : List UInt8} (h : ∀ es, IsBody c es → 64 < es.length) (hb : Below w.heap.size w w') : RetAll w c (.returned (.tuple #[.slice none 0 0, .bool false])) w' :=
  ⟨[], _, false, rfl, World.ownsRow_nil _ _ _ _, (fun _ h => by cases h), by simp, fun es he hl => by have := h es he; omega, fun _ => rfl, hb⟩

set_option maxRecDepth 100000 in
set_option maxHeartbeats 400000 in
theorem readAll_any (v : Value) (c : List UInt8) (w : World) (hv : RdB w v c) (hc : c.length ≤ 1000000) : Calls Try.prog 81 #[v] w (RetAll w c) := by
  have HV := Lib.hid hv
  obtain ⟨va, vc, rfl, hc1, hc2⟩ := hv.form
  unfold maxLen at hc2
  clear hv
  go_enter Try.func81, Try.ntmps81
  go_wp2
  go_loopw [4, 5, 6] (fun l last at_ wr => ∃ (acc : List Ent) (p : Nat) (L : ByteArray), acc.length ≤ 64 ∧ p ≤ 1000000 ∧ at_ = .int .i64 (p : Int) ∧ last = .string L ∧ L.size ≤ 64 * acc.length ∧ Hid (OwnE wr w.heap.size l acc) ∧ Hid (Par c acc p) ∧ Hid (L.data.toList = prevU acc acc.length) ∧ Hid (∀ e ∈ acc, e.fits) ∧ Hid (Below w.heap.size w wr)) (fun _ _ at_ _ => 1000000 - (intOf at_).toNat)
  case atStart => exact ⟨[], 0, ⟨#[]⟩, by simp, by omega, rfl, rfl, by simp [ByteArray.size], Lib.hid (World.ownsRow_nil _ _ _ _), Lib.hid (Par.start c), Lib.hid rfl, Lib.hid (fun e h => by cases h), Lib.hid (Below.refl _ _)⟩
  case round =>
    obtain ⟨acc, p, L, hacc, hp1, rfl, rfl, hL, HO, HP, HLS, HFI, HB⟩ := hrel
    obtain ⟨la, lc, hla, hlc1, hlc2⟩ := HO.out.form
    subst hla
    unfold maxLen at hlc2
    by_cases hpE : p < c.length
    · have k1 : decide ((p : Int) < (c.length : Int)) = true := by simp; omega
      have hrd := read_any (.slice va c.length vc) c L p wr (HV.out.below HB.out (Nat.le_refl _)) (by omega)
      cases hr : readP c L.data.toList p with
      | none =>
        rw [hr] at hrd
        have HRD := Lib.hid (show Calls Try.prog 73 #[.slice va c.length vc, .int .i64 (p : Int), .string L] wr fun e w' => e = .returned (.tuple #[.agg #[.string ⟨#[]⟩, .int .i64 0, .int .i64 0, .string ⟨#[]⟩], .int .i64 0, .bool false]) ∧ Below wr.heap.size wr w' from hrd)
        have HNO : Hid (∀ es, ¬ IsBody c es) := Lib.hid fun es he => by
          obtain ⟨h1, h2, h3⟩ := HP.out es he
          have hlt : acc.length < es.length := (he.at_end h1).1 (by rw [← h3]; exact hpE)
          have := step_read (he.step hlt) (he.may _ hlt)
          rw [← prevU_acc h2, ← h3, ← HLS.out, hr] at this
          cases this
        clear hrd hr
        go_wp2_with (first | (go_at_call 73; (refine (HRD.out).mono ?_); rintro e w3 ⟨rfl, hb3⟩; have HB3 := Lib.hid (HB.out.trans (hb3.mono HB.out.size)); have HO3 := Lib.hid (HO.out.below hb3); clear hb3))
        go_ret2
        exact RetAll.no (fun es he => absurd he (HNO.out es)) (HB3.out.alloc HB3.out.size _)
      | some x =>
        obtain ⟨⟨xu, xs, xk, xv⟩, g⟩ := x
        rw [hr] at hrd
        obtain ⟨b1, b2, b3, b4, b5, b6, b7, b8⟩ := readP_bounds hr
        simp only at b1 b2 b3 b4 b5 b6
        rw [size_list] at b1
        have HP2 := Lib.hid (HP.out.more hpE (by rw [← HLS.out]; exact read_step hr))
        have HRD := Lib.hid (show Calls Try.prog 73 #[.slice va c.length vc, .int .i64 (p : Int), .string L] wr fun e w' => e = .returned (.tuple #[.agg #[.string xu, .int .i64 xs, .int .i64 xk, .string xv], .int .i64 (g : Int), .bool true]) ∧ Below wr.heap.size wr w' from hrd)
        clear hrd hr
        by_cases h64 : acc.length = 64
        · have k2 : ((acc.length : Int) == 64) = true := by
            have : (acc.length : Int) = 64 := by omega
            simpa using this
          have HNO : Hid (∀ es, IsBody c es → 64 < es.length) := Lib.hid fun es he => by
            obtain ⟨h1, h2, h3⟩ := HP.out es he
            have hlt : acc.length < es.length := (he.at_end h1).1 (by rw [← h3]; exact hpE)
            omega
          clear HP2 h64
          go_wp2_with (first | (go_at_call 73; (refine (HRD.out).mono ?_); rintro e w3 ⟨rfl, hb3⟩; have HB3 := Lib.hid (HB.out.trans (hb3.mono HB.out.size)); have HO3 := Lib.hid (HO.out.below hb3); clear hb3))
          go_ret2
          exact RetAll.no HNO.out (HB3.out.alloc HB3.out.size _)
        · have k2 : ((acc.length : Int) == 64) = false := by
            have : (acc.length : Int) ≠ 64 := by omega
            simpa using this
          have hac2 : acc.length < 64 := by omega
          have HFX : Hid (Ent.fits ⟨xu, xs, xk, xv⟩) := Lib.hid ⟨by unfold maxLen; simp only; omega, by unfold maxLen; simp only; omega, wf_i64 (by simp only; omega) (by simp only; omega), wf_i64 (by simp only; omega) (by simp only; omega)⟩
          clear h64 hpE
          go_upto_region 9 with (first | (go_at_call 73; (refine (HRD.out).mono ?_); rintro e w3 ⟨rfl, hb3⟩; have HB3 := Lib.hid (HB.out.trans (hb3.mono HB.out.size)); have HO3 := Lib.hid (HO.out.below hb3); clear hb3; have HBX : Hid (((w3.alloc (.cells #[.string xu, .int .i64 xs, .int .i64 xk, .string xv] 34)).alloc (.cells #[.string xu, .int .i64 xs, .int .i64 xk, .string xv] 34)).heap[w3.heap.size]? = some (.cells #[.string xu, .int .i64 xs, .int .i64 xk, .string xv] 34 (0, 0))) := Lib.hid ((Below.block ((Below.refl _ _).alloc (Nat.le_refl _) _) _ (by simp)).trans (heap_alloc_new w3 _)); have HRE : Hid (Rd ((w3.alloc (.cells #[.string xu, .int .i64 xs, .int .i64 xk, .string xv] 34)).alloc (.cells #[.string xu, .int .i64 xs, .int .i64 xk, .string xv] 34)) 4 (.slice (some ⟨w3.heap.size + 1, 0, none⟩) 1 1) 1 ([(⟨xu, xs, xk, xv⟩ : Ent)].flatMap Ent.cells)) := Lib.hid (by have h := one_entry (w3.alloc (.cells #[.string xu, .int .i64 xs, .int .i64 xk, .string xv] 34)) ⟨xu, xs, xk, xv⟩; rw [show (w3.alloc (.cells #[.string xu, .int .i64 xs, .int .i64 xk, .string xv] 34)).heap.size = w3.heap.size + 1 by simp] at h; exact h); have HNB : Hid ((Value.slice la acc.length lc).ownBlock ≠ some w3.heap.size) := Lib.hid (fun e => by have := (World.ownsRow.lt HO3.out _ e).2; omega)) | (at_builtin; refine wpList_plain rfl fun K' hK' => ?_; refine wp_append_at (.tmp 29) (.tmp 31) 25 rfl 34 4 48 (.agg #[.string ⟨#[]⟩, .int .i64 0, .int .i64 0, .string ⟨#[]⟩]) Try.underlying25 info_ent rfl (by decide) _ _ _ 1 _ ([(⟨xu, xs, xk, xv⟩ : Ent)].flatMap Ent.cells) rfl rfl (World.ownsRow.alloc (World.ownsRow.alloc (own_base HO3.out fun _ _ => Nat.zero_le _) _) _) HRE.out (entFlat_one _) (by omega) (by unfold maxLen; omega) (fun v' w' hown hmv => hK' _ _ ?_); have hbx := (hmv.grown.block w3.heap.size (by simp; omega) (fun e => HNB.out e.symm)).trans HBX.out; have HBX2 := Lib.hid hbx; have HOW := Lib.hid (ownE_moved (World.ownsRow.alloc (World.ownsRow.alloc HO3.out _) _) (Nat.le_trans HB3.out.size (by simp; omega)) hown hmv); have HBE := Lib.hid (belowE_moved (World.ownsRow.alloc (World.ownsRow.alloc HO3.out _) _) (Nat.le_trans HB3.out.size (by simp; omega)) ((HB3.out.alloc HB3.out.size _).alloc (Nat.le_trans HB3.out.size (by simp)) _) hmv); clear hown hmv hbx))
          have x0 := blk_cell (i := 0) HBX2.out
          replace x0 : w'.cell? ⟨w3.heap.size, 0, none⟩ = some (.string xu) := x0
          refine wp_region_plan [(true, 0), (true, 1), (true, 2), (true, 3), (true, 4), (true, 5)] (by kernel_rfl) (by kernel_rfl) (by kernel_rfl) (by kernel_rfl) (by kernel_rfl) ?_
          simp only [planO, List.drop_succ_cons, List.drop_zero]
          refine PlanO.take (v := ?v0) (by kernel_rfl) ?y0 ?r0
          case y0 => (intro wz hz; go_simp; try with_reducible rfl)
          (try simp only [Act.put, List.setIfInBounds_toArray, List.set_cons_zero, List.set_cons_succ])
          refine PlanO.take (v := .pointer (some ⟨w3.heap.size, 0, none⟩)) (by kernel_rfl) ?y1 ?r1
          case y1 => (intro wz hz; go_simp; try with_reducible rfl)
          (try simp only [Act.put, List.setIfInBounds_toArray, List.set_cons_zero, List.set_cons_succ])
          refine PlanO.take (v := .pointer (some ⟨w3.heap.size, 0, none⟩)) (by kernel_rfl) ?y2 ?r2
          case y2 => (intro wz hz; go_simp; try with_reducible rfl)
          (try simp only [Act.put, List.setIfInBounds_toArray, List.set_cons_zero, List.set_cons_succ])
          refine PlanO.take (v := .string xu) (by kernel_rfl) ?y3 ?r3
          case y3 => (intro wz hz; have c0 := Ext.at_ hz x0; go_simp; try with_reducible rfl)
          (try simp only [Act.put, List.setIfInBounds_toArray, List.set_cons_zero, List.set_cons_succ])
          refine PlanO.take (v := ?v4) (by kernel_rfl) ?y4 ?r4
          case y4 => (intro wz hz; go_simp; try with_reducible rfl)
          (try simp only [Act.put, List.setIfInBounds_toArray, List.set_cons_zero, List.set_cons_succ])
          refine PlanO.take (v := ?v5) (by kernel_rfl) ?y5 ?r5
          case y5 => (intro wz hz; go_simp; try with_reducible rfl)
          (try simp only [Act.put, List.setIfInBounds_toArray, List.set_cons_zero, List.set_cons_succ])
          refine PlanO.done (NoPanic.normal ?_)
          go_wp2
          refine ⟨⟨acc ++ [⟨xu, xs, xk, xv⟩], g, xu, by simp; omega, by omega, rfl, rfl, by simp; omega, Lib.hid (HOW.out.below (Below.refl _ _).drew), HP2, Lib.hid ?_, Lib.hid ?_, Lib.hid HBE.out.drew⟩, by simp [intOf]; omega⟩
          · rw [show (acc ++ [(⟨xu, xs, xk, xv⟩ : Ent)]).length = acc.length + 1 by simp, prevU_snoc]
          · intro e he
            rcases List.mem_append.1 he with he | he
            · exact HFI.out e he
            · rw [List.mem_singleton.1 he]
              exact HFX.out
    · have k1 : decide ((p : Int) < (c.length : Int)) = false := by simp; omega
      have k1n : decide (p < c.length) = false := by simp; omega
      have HQ := Lib.hid (show ∀ es, IsBody c es → es = acc from fun es he => HP.out.end_ hpE he)
      clear hpE
      go_wp2
      go_ret2
      exact ⟨acc, _, true, rfl, HO.out, HFI.out, hacc, fun es he _ => ⟨rfl, HQ.out es he⟩, (fun h => by cases h), HB.out⟩
end Go.Proofs.Yteeikmpfgbfeoaa

/-
  Blocks: the bytes where entries stand, and those that tell the places of the whole ones, as the program parts them.
-/
namespace Go.Proofs.Yteeikmpfgbfeoaa
open Go.RowKit

set_option maxRecDepth 100000 in
set_option maxHeartbeats 400000 in
theorem split_short (v : Value) (b : List UInt8) (w : World) (hv : RdB w v b) (h : b.length < 2) :
    Calls Try.prog 71 #[v] w fun e w' => e = .returned (.tuple #[.slice none 0 0, .slice none 0 0, .bool false]) ∧ Below w.heap.size w w' := by
  have HF := Lib.hid (getFixed_out v b ((b.length : Int) - 2) 2 (by omega) (by omega) w hv)
  obtain ⟨va, vc, rfl, hc1, hc2⟩ := hv.form
  clear hv
  have l1 : IntKind.i64.wrap ((b.length : Int) - 2) = (b.length : Int) - 2 := IntWalk.i64_in _ (by omega)
  go_enter Try.func71, Try.ntmps71
  go_wp2_with (go_at_call 49; (refine HF.out.mono ?_); rintro e w1 ⟨rfl, rfl⟩)
  refine bodyPost_ret (v := .tuple #[.slice none 0 0, .slice none 0 0, .bool false]) (by simp [results, Try.results71, go_sem]) rfl ⟨rfl, Below.refl _ _⟩

theorem fixed_end {v : Value} {b : List UInt8} {w : World} (hv : RdB w v b) (h : 2 ≤ b.length) :
    Calls Try.prog 49 #[v, .int .i64 ((b.length : Int) - 2), .int .i64 2] w fun e w' => e = .returned (.tuple #[.int .i64 (valL (b.drop (b.length - 2)) : Int), .bool true]) ∧ w = w' := by
  obtain ⟨m, hm⟩ : ∃ m, b.length = m + 2 := ⟨b.length - 2, by omega⟩
  have hgf := getFixed_yes v b m 2 (by omega) (by omega) w hv
  have htk : (b.drop m).take 2 = b.drop (b.length - 2) := by rw [List.take_of_length_le (by rw [List.length_drop]; omega), hm, Nat.add_sub_cancel]
  rw [htk] at hgf
  rw [show (b.length : Int) - 2 = (m : Int) by omega]
  exact hgf
theorem end_less {b : List UInt8} (h : 2 ≤ b.length) : valL (b.drop (b.length - 2)) < 65536 := by
  have := valL_lt (b.drop (b.length - 2))
  rw [List.length_drop, show b.length - (b.length - 2) = 2 by omega] at this
  exact this

set_option maxRecDepth 100000 in
set_option maxHeartbeats 400000 in
theorem split_no (v : Value) (b : List UInt8) (w : World) (hv : RdB w v b) (h2 : 2 ≤ b.length) (h : b.length < 2 + 4 * valL (b.drop (b.length - 2))) :
    Calls Try.prog 71 #[v] w fun e w' => e = .returned (.tuple #[.slice none 0 0, .slice none 0 0, .bool false]) ∧ Below w.heap.size w w' := by
  have hgf := fixed_end hv h2
  have hvl := end_less h2
  generalize valL (b.drop (b.length - 2)) = n at *
  have HF := Lib.hid hgf
  obtain ⟨va, vc, rfl, hc1, hc2⟩ := hv.form
  unfold maxLen at hc2
  clear hv hgf
  have l1 : IntKind.i64.wrap ((b.length : Int) - 2) = (b.length : Int) - 2 := IntWalk.i64_in _ (by omega)
  have l2 : IntKind.i64.wrap (4 * (n : Int)) = 4 * (n : Int) := IntWalk.i64_in _ (by omega)
  obtain ⟨z, hz⟩ : ∃ z : Int, (b.length : Int) - 2 - 4 * (n : Int) = z := ⟨_, rfl⟩
  have l3 : IntKind.i64.wrap ((b.length : Int) - 2 - 4 * (n : Int)) = z := by rw [IntWalk.i64_in _ (by omega)]; exact hz
  have k1 : decide (z < 0) = true := by simp; omega
  clear hz
  go_enter Try.func71, Try.ntmps71
  go_wp2_with (go_at_call 49; (refine HF.out.mono ?_); rintro e w1 ⟨rfl, rfl⟩)
  refine bodyPost_ret (v := .tuple #[.slice none 0 0, .slice none 0 0, .bool false]) (by simp [results, Try.results71, go_sem]) rfl ⟨rfl, Below.refl _ _⟩

set_option maxRecDepth 100000 in
set_option maxHeartbeats 400000 in
theorem split_yes (v : Value) (b : List UInt8) (w : World) (hv : RdB w v b) (n E : Nat) (hn : valL (b.drop (b.length - 2)) = n) (hE : b.length = E + 4 * n + 2) :
    Calls Try.prog 71 #[v] w fun e w' => ∃ x y, e = .returned (.tuple #[x, y, .bool true]) ∧ RdB w' x (b.take E) ∧ RdB w' y ((b.drop E).take (4 * n)) ∧ Below w.heap.size w w' := by
  have hgf := fixed_end hv (by omega)
  have hvl := end_less (b := b) (by omega)
  rw [hn] at hgf hvl
  have HF := Lib.hid hgf
  have HV := Lib.hid hv
  obtain ⟨bb, off, vc, rfl, hc1, hc2, _, _⟩ := hv.cells (by intro h; subst h; simp at hE)
  unfold maxLen at hc2
  clear hv hgf hn
  have l1 : IntKind.i64.wrap ((b.length : Int) - 2) = (b.length : Int) - 2 := IntWalk.i64_in _ (by omega)
  have l2 : IntKind.i64.wrap (4 * (n : Int)) = 4 * (n : Int) := IntWalk.i64_in _ (by omega)
  have l3 : IntKind.i64.wrap ((b.length : Int) - 2 - 4 * (n : Int)) = (E : Int) := by rw [IntWalk.i64_in _ (by omega)]; omega
  have k1 : decide ((E : Int) < 0) = false := by simp
  have hEv : E < vc := by omega
  have HX : Hid (∀ wz, Below w.heap.size w wz → RdB wz (.slice (some ⟨bb, off, none⟩) E vc) (b.take E)) := Lib.hid fun wz hz => by
    have h := sub_rd (HV.out.below hz (Nat.le_refl _)) 0 E (by omega) (by omega)
    rw [List.drop_zero] at h
    unfold RdB
    rw [List.length_take, show min E b.length = E by omega]
    simpa [Addr.add] using h
  have HY : Hid (∀ wz, Below w.heap.size w wz → RdB wz (.slice (some ⟨bb, off + E, none⟩) (4 * n) (vc - E)) ((b.drop E).take (4 * n))) := Lib.hid fun wz hz => by
    have h := sub_rd (HV.out.below hz (Nat.le_refl _)) E (4 * n) (by omega) (by omega)
    have hadd : (⟨bb, off, none⟩ : Addr).add E = ⟨bb, off + E, none⟩ := by unfold Addr.add; split <;> simp_all
    rw [Option.map_some, hadd] at h
    unfold RdB
    rw [List.length_take, List.length_drop, show min (4 * n) (b.length - E) = 4 * n by omega]
    exact h
  have HE := Lib.hid hE
  have e1 : E + 4 * n ≤ b.length := by omega
  have e2 : E + 4 * n ≤ vc := by omega
  clear hE
  go_enter Try.func71, Try.ntmps71
  go_upto_region 5 with (go_at_call 49; (refine HF.out.mono ?_); rintro e w1 ⟨rfl, rfl⟩)
  refine wp_region_plan [(true, 0), (true, 1), (true, 2), (true, 3), (true, 4), (true, 5), (true, 6), (true, 7), (true, 8), (true, 9), (true, 10), (true, 11)] (by kernel_rfl) (by kernel_rfl) (by kernel_rfl) (by kernel_rfl) (by kernel_rfl) ?_
  simp only [planO, List.drop_succ_cons, List.drop_zero]
  refine PlanO.take (v := ?v0) (by kernel_rfl) ?y0 ?r0
  case y0 => (intro wz hz; go_simp; try with_reducible rfl)
  (try simp only [Act.put, List.setIfInBounds_toArray, List.set_cons_zero, List.set_cons_succ])
  refine PlanO.take (v := ?v1) (by kernel_rfl) ?y1 ?r1
  case y1 => (intro wz hz; go_simp; try with_reducible rfl)
  (try simp only [Act.put, List.setIfInBounds_toArray, List.set_cons_zero, List.set_cons_succ])
  refine PlanO.take (v := .slice (some ⟨bb, off, none⟩) E vc) (by kernel_rfl) ?y2 ?r2
  case y2 => (intro wz hz; go_simp; try (intro hkc; omega))
  (try simp only [Act.put, List.setIfInBounds_toArray, List.set_cons_zero, List.set_cons_succ])
  refine PlanO.take (v := ?v3) (by kernel_rfl) ?y3 ?r3
  case y3 => (intro wz hz; go_simp; try with_reducible rfl)
  (try simp only [Act.put, List.setIfInBounds_toArray, List.set_cons_zero, List.set_cons_succ])
  refine PlanO.take (v := ?v4) (by kernel_rfl) ?y4 ?r4
  case y4 => (intro wz hz; go_simp; try with_reducible rfl)
  (try simp only [Act.put, List.setIfInBounds_toArray, List.set_cons_zero, List.set_cons_succ])
  refine PlanO.take (v := ?v5) (by kernel_rfl) ?y5 ?r5
  case y5 => (intro wz hz; go_simp; try with_reducible rfl)
  (try simp only [Act.put, List.setIfInBounds_toArray, List.set_cons_zero, List.set_cons_succ])
  refine PlanO.take (v := ?v6) (by kernel_rfl) ?y6 ?r6
  case y6 => (intro wz hz; go_simp; try with_reducible rfl)
  (try simp only [Act.put, List.setIfInBounds_toArray, List.set_cons_zero, List.set_cons_succ])
  refine PlanO.take (v := .int .i64 ((b.length : Int) - 2)) (by kernel_rfl) ?y7 ?r7
  case y7 => (intro wz hz; go_simp; try with_reducible rfl)
  (try simp only [Act.put, List.setIfInBounds_toArray, List.set_cons_zero, List.set_cons_succ])
  refine PlanO.take (v := .slice (some ⟨bb, off + E, none⟩) (4 * n) (vc - E)) (by kernel_rfl) ?y8 ?r8
  case y8 => (intro wz hz; go_simp; have hEo := HE.out; rw [if_pos (by omega), if_pos (by omega), if_neg (show ¬ vc = E by omega), show ((b.length : Int) - 2).toNat - E = 4 * n by omega])
  (try simp only [Act.put, List.setIfInBounds_toArray, List.set_cons_zero, List.set_cons_succ])
  refine PlanO.take (v := ?v9) (by kernel_rfl) ?y9 ?r9
  case y9 => (intro wz hz; go_simp; try with_reducible rfl)
  (try simp only [Act.put, List.setIfInBounds_toArray, List.set_cons_zero, List.set_cons_succ])
  refine PlanO.take (v := ?v10) (by kernel_rfl) ?y10 ?r10
  case y10 => (intro wz hz; go_simp; try with_reducible rfl)
  (try simp only [Act.put, List.setIfInBounds_toArray, List.set_cons_zero, List.set_cons_succ])
  refine PlanO.take (v := ?v11) (by kernel_rfl) ?y11 ?r11
  case y11 => (intro wz hz; go_simp; try with_reducible rfl)
  (try simp only [Act.put, List.setIfInBounds_toArray, List.set_cons_zero, List.set_cons_succ])
  refine PlanO.done (NoPanic.normal ?_)
  go_wp2
  refine bodyPost_ret (v := .tuple #[.slice (some ⟨bb, off, none⟩) E vc, .slice (some ⟨bb, off + E, none⟩) (4 * n) (vc - E), .bool true]) (by simp [results, Try.results71, go_sem]) rfl ?_
  exact ⟨_, _, rfl, HX.out _ (Below.refl _ _).drew, HY.out _ (Below.refl _ _).drew, (Below.refl _ _).drew⟩
end Go.Proofs.Yteeikmpfgbfeoaa

/-
  Blocks: the entries of a block, as the program tells them.
-/
namespace Go.Proofs.Yteeikmpfgbfeoaa
open Go.RowKit

set_option maxRecDepth 100000 in
theorem equal_any12 (w : World) (va vb : Option Addr) (ca cb : Nat) (l b : List UInt8) (hl : RdB w (.slice va l.length ca) l) (hb : RdB w (.slice vb b.length cb) b) :
    Calls Try.prog 52 #[.slice va l.length ca, .slice vb b.length cb] w fun e w' => e = .returned (.bool (decide (l = b))) ∧ Below w.heap.size w w' := by
  have c1 := rdB_convert (P := Try.prog) hl 22 5 9 Try.underlying22 Try.underlying5 Try.underlying9
  have c2 := rdB_convert (P := Try.prog) hb 22 5 9 Try.underlying22 Try.underlying5 Try.underlying9
  clear hl hb
  go_enter Try.func52, Try.ntmps52
  go_wp2
  go_ret
  refine ⟨?_, Below.refl _ _⟩
  by_cases hlb : l = b <;> simp [hlb]

set_option maxRecDepth 100000 in
set_option maxHeartbeats 400000 in
theorem get_any0 (v : Value) (b : List UInt8) (w : World) (hv : RdB w v b) (hl : b.length ≤ 1000000) : Calls Try.prog 68 #[v] w (RetGet w b) := by
  by_cases g1 : b.length < 2
  · have HNO := Lib.hid (show getB b = none from getB_none fun es h => by have := h.count; omega)
    have HS := Lib.hid (split_short v b w hv g1)
    clear hv
    go_enter Try.func68, Try.ntmps68
    go_wp2_with (go_at_call 71; (refine HS.out.mono ?_); rintro e w1 ⟨rfl, hb1⟩)
    go_ret2
    exact RetGet.no HNO.out hb1
  · by_cases g2 : b.length < 2 + 4 * valL (b.drop (b.length - 2))
    · have HNO := Lib.hid (show getB b = none from getB_none fun es h => by have := h.count; omega)
      have HS := Lib.hid (split_no v b w hv (by omega) g2)
      clear hv g2
      go_enter Try.func68, Try.ntmps68
      go_wp2_with (go_at_call 71; (refine HS.out.mono ?_); rintro e w1 ⟨rfl, hb1⟩)
      go_ret2
      exact RetGet.no HNO.out hb1
    · obtain ⟨n, hn⟩ : ∃ n, valL (b.drop (b.length - 2)) = n := ⟨_, rfl⟩
      rw [hn] at g2
      have HS := Lib.hid (split_yes v b w hv n (b.length - 2 - 4 * n) hn (by omega))
      have HBO : Hid (∀ es, IsBlk b es → IsBody (b.take (b.length - 2 - 4 * n)) es ∧ es.length ≤ 64 ∧ putErr es = 0 ∧ blockL es = b) := Lib.hid fun es h => by
        have h1 := h.body
        rw [hn] at h1
        exact ⟨h1, (putErr_ok h.1).2.2, h.1, h.2⟩
      have hcl : (b.take (b.length - 2 - 4 * n)).length ≤ 1000000 := by rw [List.length_take]; omega
      have HV := Lib.hid hv
      obtain ⟨va, vc, rfl, _, _⟩ := hv.form
      clear hv hn g2 g1
      generalize b.take (b.length - 2 - 4 * n) = c at *
      go_enter Try.func68, Try.ntmps68
      go_upto_region 6 with (first | (go_at_call 71; (refine HS.out.mono ?_); rintro e w1 ⟨x, y, rfl, hx, _, hb1⟩; have HX := Lib.hid hx; have HB1 := Lib.hid hb1; clear hx hb1) | (go_at_call 81; (refine (readAll_any x c w1 HX.out hcl).mono ?_); rintro e w2 ⟨acc, xl, ok, rfl, ho2, hf2, hn2, hq2, hz2, hb2⟩; have HO2 := Lib.hid ho2; have HF2 := Lib.hid hf2; have HQ2 := Lib.hid hq2; have HZ2 := Lib.hid hz2; have HB2 := Lib.hid hb2; clear ho2 hf2 hq2 hz2 hb2) | (go_at_call 23; (refine (put_any12 xl acc w2 (HO2.out.read HF2.out)).mono ?_); rintro e w3 ⟨xp, rfl, ho3, hb3⟩; have HO3 := Lib.hid ho3; have HB3 := Lib.hid hb3; clear ho3 hb3))
      have HBW : Hid (Below w.heap.size w w3) := Lib.hid ((HB1.out.trans (HB2.out.mono HB1.out.size)).trans (HB3.out.mono (Nat.le_trans HB1.out.size HB2.out.size)))
      have HOW : Hid (OwnE w3 w.heap.size xl acc) := Lib.hid (own_monoE (HO2.out.below HB3.out) HB1.out.size)
      cases ok with
      | false =>
        have HR := Lib.hid (show getB b = none from getB_none fun es he => by
          obtain ⟨h1, h2, _⟩ := HBO.out es he
          have := (HQ2.out es h1 h2).1
          cases this)
        go_wp2
        go_ret2
        exact RetGet.no HR.out HBW.out
      | true =>
        have HQ : Hid (∀ es, IsBlk b es → es = acc) := Lib.hid fun es he => (HQ2.out es (HBO.out es he).1 (HBO.out es he).2.1).2
        by_cases he0 : putErr acc = 0
        · have hoe : OwnB w3 w2.heap.size 5 xp (blockL acc) := by
            have h := HO3.out
            rw [if_pos he0] at h
            exact h
          have hpe : ((putErr acc : Int) != 0) = false := by rw [he0]; rfl
          obtain ⟨pa, pc, hpa, _, _⟩ := hoe.read.form
          subst hpa
          have HEQ := Lib.hid (fun wz (hz : Below w3.heap.size w3 wz) => equal_any12 wz pa va pc vc (blockL acc) b (hoe.read.below hz (Nat.le_refl _)) ((HV.out.below HBW.out (Nat.le_refl _)).below hz (Nat.le_refl _)))
          by_cases hbq : blockL acc = b
          · have HIS := Lib.hid (show IsBlk b acc from ⟨he0, hbq⟩)
            have hdt : decide (blockL acc = b) = true := by simpa using hbq
            rw [hdt] at HEQ
            clear hdt hbq he0 hoe HO3
            generalize blockL acc = P at *
            generalize putErr acc = er at *
            go_wp2_with (go_at_call 52; (refine (HEQ.out _ (Below.refl _ _)).mono ?_); rintro e w4 ⟨rfl, hb4⟩)
            go_ret2
            exact RetGet.yes HIS.out (HOW.out.below hb4) (HBW.out.trans (hb4.mono HBW.out.size))
          · have HR := Lib.hid (show getB b = none from getB_none fun es he => hbq (by rw [← HQ.out es he]; exact he.2))
            have hdt : decide (blockL acc = b) = false := by simpa using hbq
            rw [hdt] at HEQ
            clear hdt hbq he0 hoe HO3
            generalize blockL acc = P at *
            generalize putErr acc = er at *
            go_wp2_with (go_at_call 52; (refine (HEQ.out _ (Below.refl _ _)).mono ?_); rintro e w4 ⟨rfl, hb4⟩)
            go_ret2
            exact RetGet.no HR.out (HBW.out.trans (hb4.mono HBW.out.size))
        · have HR := Lib.hid (show getB b = none from getB_none fun es he => he0 (by rw [← HQ.out es he]; exact he.1))
          have hpe : ((putErr acc : Int) != 0) = true := by simpa using he0
          clear he0 HO3
          generalize putErr acc = er at *
          go_wp2
          go_ret2
          exact RetGet.no HR.out HBW.out
theorem get_any12 : GetC := fun v b w hv hl => get_any0 v b w hv hl
end Go.Proofs.Yteeikmpfgbfeoaa

/-
  Tables: add: one block more of a table is read.
-/
namespace Go.Proofs.Yteeikmpfgbfeoaa
open Go.RowKit

/-- Such a block may be the next one. -/
def NextOk (ps : List (List Ent)) (x : List Ent) : Prop := (ps ≠ [] → x.length ≤ firstN ps) ∧ ps.flatten.length = firstN ps * ps.length ∧ ps.flatten.length + x.length ≤ 256
theorem okNext_iff {ps : List (List Ent)} {x : List Ent} {per : Nat} (hp : per = if ps = [] then x.length else firstN ps) : okNext x.length per ps.flatten.length (rowsQ ps).length = true ↔ NextOk ps x := by
  unfold okNext NextOk
  rw [rowsQ_len, hp]
  simp only [Bool.and_eq_true, decide_eq_true_eq, beq_iff_eq]
  by_cases h : ps = []
  · subst h
    simp [firstN]
  · simp only [h, if_false]
    constructor
    · rintro ⟨⟨h1, h2⟩, h3⟩
      exact ⟨fun _ => h1, h2, h3⟩
    · rintro ⟨h1, h2, h3⟩
      exact ⟨⟨h1 (fun e => h (by simpa using e)), h2⟩, h3⟩
theorem firstN_more (ps : List (List Ent)) (x : List Ent) : firstN (ps ++ [x]) = if ps = [] then x.length else firstN ps := by
  unfold firstN
  cases ps with
  | nil => rfl
  | cons p r => simp

/-- What add tells, and what it leaves. -/
def AddRet (W0 : World) (B q : Nat) (vf : Value) (b : List UInt8) (ps : List (List Ent)) (e : Ending) (w' : World) : Prop :=
  Below B W0 w' ∧
   ((∃ x ve vr, frOk b (tabQ ps).length = true ∧ getB (frP b (tabQ ps).length) = some x ∧ NextOk ps x ∧ e = .returned (.tuple #[.int .i64 ((tabQ (ps ++ [x])).length : Int), .bool true]) ∧ OB W0 B q w' (firstN (ps ++ [x])) ve vr vf (ps ++ [x]).flatten (rowsQ (ps ++ [x]))) ∨
    ((frOk b (tabQ ps).length = false ∨ getB (frP b (tabQ ps).length) = none ∨ ∃ x, getB (frP b (tabQ ps).length) = some x ∧ ¬ NextOk ps x) ∧ e = .returned (.tuple #[.int .i64 0, .bool false])))

theorem getB_nil : getB [] = none := getB_none fun es h => by
  have := congrArg List.length h.2
  rw [blockL_len] at this
  simp at this

set_option maxRecDepth 100000 in
set_option maxHeartbeats 600000 in
theorem add_any {W0 w : World} {B q : Nat} {ve vr vf v : Value} {b : List UInt8} {ps : List (List Ent)} (h0 : OB W0 B q w (firstN ps) ve vr vf ps.flatten (rowsQ ps)) (hB : W0.heap.size ≤ B) (hv : RdB W0 v b) (hl : b.length ≤ 1000000) (hs : Seen b ps) :
    Calls Try.prog 50 #[.pointer (some ⟨q, 0, none⟩), v, .int .i64 ((tabQ ps).length : Int)] w (AddRet W0 B q vf b ps) := by
  have HV : Hid (∀ wz, Below B W0 wz → RdB wz v b) := Lib.hid fun wz hz => hv.below hz hB
  have HS := Lib.hid hs
  obtain ⟨FL, hFL⟩ : ∃ FL, ps.flatten = FL := ⟨_, rfl⟩
  have HNI : Hid (∀ (x : List Ent) per, per = (if ps = [] then x.length else firstN ps) → (okNext x.length per FL.length (rowsQ ps).length = true ↔ NextOk ps x)) := Lib.hid fun x per hp => by rw [← hFL]; exact okNext_iff hp
  have HFX : Hid (∀ x : List Ent, (ps ++ [x]).flatten = FL ++ x) := Lib.hid fun x => by rw [List.flatten_append, List.flatten_singleton, hFL]
  have HPL := Lib.hid hs.len
  have HFE : Hid (FL.length ≤ 256) := Lib.hid (by rw [← hFL]; exact hs.few)
  rw [hFL] at h0
  have HTL : Hid ((tabQ ps).length ≤ 25602048) := Lib.hid (by have := tabQ_len hs.ok; have := hs.len; omega)
  have HRL : Hid ((rowsQ ps).length ≤ 256) := Lib.hid (by rw [rowsQ_len]; exact hs.len)
  have hg : ∀ wz, Below B W0 wz → Calls Try.prog 51 #[v, .int .i64 ((tabQ ps).length : Int)] wz (GetFr wz b ((tabQ ps).length : Int)) := fun wz hz => fget_any wz v b _ (HV.out wz hz) (by omega) (by have := HTL.out; omega)
  clear hv hs hFL
  cases hf : frOk b (tabQ ps).length with
  | false =>
    have HG : Hid (∀ wz, Below B W0 wz → Calls Try.prog 51 #[v, .int .i64 ((tabQ ps).length : Int)] wz fun e w' => e = .returned (.tuple #[.slice none 0 0, .int .i64 0, .bool false]) ∧ Below wz.heap.size wz w') := Lib.hid fun wz hz => by
      refine (hg wz hz).mono ?_
      rintro e w' (⟨_, rfl, hb⟩ | ⟨p, hp, ho, _⟩)
      · exact ⟨rfl, hb⟩
      · obtain rfl : p = (tabQ ps).length := by omega
        rw [hf] at ho
        cases ho
    have HBG : Hid (∀ wz, Calls Try.prog 68 #[.slice none 0 0] wz fun e w' => ∃ x, e = .returned (.tuple #[x, .bool false]) ∧ Below wz.heap.size wz w') := Lib.hid fun wz => by
      refine (get_any0 (.slice none 0 0) [] wz (rdB_empty wz none 0 (Nat.zero_le _) (fun _ => rfl)) (by simp)).mono ?_
      rintro e w' ⟨x, rfl, _, hb⟩
      exact ⟨x, by rw [getB_nil]; rfl, hb⟩
    have HFF := Lib.hid hf
    have HO0 := Lib.hid h0
    clear hg hf h0
    go_enter Try.func50, Try.ntmps50
    go_wp2_with (first | (go_at_call 51; (refine (HG.out _ HO0.out.be).mono ?_); rintro e u1 ⟨rfl, hb1⟩; have HOB1 := Lib.hid (HO0.out.call hb1); clear hb1) | (go_at_call 68; (refine (HBG.out _).mono ?_); rintro e u2 ⟨x2, rfl, hb2⟩; have HOB2 := Lib.hid (HOB1.out.call hb2); clear hb2))
    go_ret2
    exact ⟨HOB2.out.be, .inr ⟨.inl HFF.out, rfl⟩⟩
  | true =>
    have hle := frOk_le hf
    have hfl := frP_length hle
    have HG : Hid (∀ wz, Below B W0 wz → Calls Try.prog 51 #[v, .int .i64 ((tabQ ps).length : Int)] wz fun e w' => ∃ u, e = .returned (.tuple #[u, .int .i64 (((tabQ ps).length + 8 + frN b (tabQ ps).length : Nat) : Int), .bool true]) ∧ OwnB w' wz.heap.size 5 u (frP b (tabQ ps).length) ∧ Below wz.heap.size wz w') := Lib.hid fun wz hz => by
      refine (hg wz hz).mono ?_
      rintro e w' (⟨hno, _, _⟩ | ⟨p, hp, _, u, rfl, ho, hb⟩)
      · have := hno _ rfl
        rw [hf] at this
        cases this
      · obtain rfl : p = (tabQ ps).length := by omega
        exact ⟨u, rfl, ho, hb⟩
    have HBG0 : ∀ y wz, RdB wz y (frP b (tabQ ps).length) → Calls Try.prog 68 #[y] wz (RetGet wz (frP b (tabQ ps).length)) := fun y wz hy => get_any0 y _ wz hy (by omega)
    cases hx : getB (frP b (tabQ ps).length) with
    | none =>
      have HBG : Hid (∀ y wz, RdB wz y (frP b (tabQ ps).length) → Calls Try.prog 68 #[y] wz fun e w' => ∃ x, e = .returned (.tuple #[x, .bool false]) ∧ Below wz.heap.size wz w') := Lib.hid fun y wz hy => by
        refine (HBG0 y wz hy).mono ?_
        rintro e w' ⟨x, rfl, _, hb⟩
        exact ⟨x, by rw [hx]; rfl, hb⟩
      have HGB := Lib.hid hx
      have HO0 := Lib.hid h0
      clear hg hf h0 hx HBG0 hle hfl
      go_enter Try.func50, Try.ntmps50
      go_wp2_with (first | (go_at_call 51; (refine (HG.out _ HO0.out.be).mono ?_); rintro e u1 ⟨y1, rfl, ho1, hb1⟩; have HY1 := Lib.hid ho1.read; have HOB1 := Lib.hid (HO0.out.call hb1); clear ho1 hb1) | (go_at_call 68; (refine (HBG.out _ _ HY1.out).mono ?_); rintro e u2 ⟨x2, rfl, hb2⟩; have HOB2 := Lib.hid (HOB1.out.call hb2); clear hb2))
      go_ret2
      exact ⟨HOB2.out.be, .inr ⟨.inr (.inl HGB.out), rfl⟩⟩
    | some x =>
      obtain ⟨hxe, hxb⟩ := getB_is hx
      obtain ⟨k1, k2, k3⟩ := putErr_ok hxe
      have HBG : Hid (∀ y wz, RdB wz y (frP b (tabQ ps).length) → Calls Try.prog 68 #[y] wz fun e w' => ∃ xv, e = .returned (.tuple #[xv, .bool true]) ∧ OwnE w' wz.heap.size xv x ∧ Below wz.heap.size wz w') := Lib.hid fun y wz hy => by
        refine (HBG0 y wz hy).mono ?_
        rintro e w' ⟨x, rfl, ho, hb⟩
        rw [hx] at ho ⊢
        exact ⟨_, rfl, ho, hb⟩
      have HFO := Lib.hid hf
      have HGB := Lib.hid hx
      have HXL := Lib.hid k3
      have HXN := Lib.hid k2
      have HXP := Lib.hid (List.length_pos_iff.2 k2)
      have HXF : Hid (∀ e ∈ x, e.fits) := Lib.hid fun e he => Ent.may_fits (rising_all k1 e he)
      have hfr : (tabQ ps).length + 8 + frN b (tabQ ps).length = (tabQ ps).length + (frRaw (blockL x)).length := by
        rw [frRaw_length, hxb, hfl]
        omega
      rw [hfr] at HG
      have HNX : Hid ((tabQ (ps ++ [x])).length = (tabQ ps).length + (frRaw (blockL x)).length) := Lib.hid (by rw [tabQ_snoc, List.length_append])
      have HBL := Lib.hid (blk_len hxe).2
      obtain ⟨ea, ec, hve, _, _⟩ := h0.ents.form
      subst hve
      obtain ⟨ra, rc, hvr, _, _⟩ := h0.rows.form
      subst hvr
      have e1 : IntKind.i64.wrap ((((tabQ ps).length + (frRaw (blockL x)).length : Nat) : Int) - ((tabQ ps).length : Int)) = ((frRaw (blockL x)).length : Int) := by rw [IntWalk.i64_in _ (by have := HTL.out; have := HBL.out; omega)]; omega
      have e2 : ((tabQ ps).length : Int) + ((frRaw (blockL x)).length : Int) - ((tabQ ps).length : Int) = ((frRaw (blockL x)).length : Int) := by omega
      have e3 : IntKind.i64.wrap ((frRaw (blockL x)).length : Int) = ((frRaw (blockL x)).length : Int) := IntWalk.i64_in _ (by have := HBL.out; omega)
      clear hg hf hx HBG0 hle hfl hxe hxb k1 k2 k3 hfr
      have HO0 := Lib.hid h0
      clear h0
      by_cases hps : ps = []
      · have HPE : Hid (x.length = if ps = [] then x.length else firstN ps) := Lib.hid (by rw [if_pos hps])
        have HPB : Hid (x.length ≤ 64) := HXL
        have hz : (rowsQ ps).length = 0 := by rw [rowsQ_len, hps]; rfl
        have d0 : (((rowsQ ps).length : Int) == 0) = true := by rw [hz]; rfl
        have HPS := Lib.hid hps
        clear hps hz
        have HTK : Hid (∀ wz, OB W0 B q wz (x.length) (.slice ea FL.length ec) (.slice ra (rowsQ ps).length rc) vf FL (rowsQ ps) → Calls Try.prog 69 #[.pointer (some ⟨q, 0, none⟩), .int .i64 (x.length : Int)] wz fun e w' => e = .returned (.bool (okNext x.length (x.length) FL.length (rowsQ ps).length)) ∧ Below wz.heap.size wz w') := Lib.hid fun wz h => takes_any h.box (by have := HXL.out; omega) (by have := HPB.out; omega) (by have := HFE.out; omega) (by have := HRL.out; omega)
        cases hk : okNext x.length (x.length) FL.length (rowsQ ps).length with
        | false =>
          have HNK : Hid (¬ NextOk ps x) := Lib.hid (fun h => by have := (HNI.out x _ HPE.out).2 h; rw [hk] at this; cases this)
          rw [hk] at HTK
          clear hk
          go_enter Try.func50, Try.ntmps50
          go_wp2_with (first | (go_at_call 51; (refine (HG.out _ HO0.out.be).mono ?_); rintro e u1 ⟨y1, rfl, ho1, hb1⟩; have HY1 := Lib.hid ho1.read; have HOB1 := Lib.hid (HO0.out.call hb1); clear ho1 hb1) | (go_at_call 68; (refine (HBG.out _ _ HY1.out).mono ?_); rintro e u2 ⟨xv, rfl, ho2, hb2⟩; (obtain ⟨xa, xc, hxv, _, _⟩ := ho2.form); subst hxv; have hOB2 := HOB1.out.call hb2; have z0 := hOB2.cell 0; have z1 := hOB2.cell 1; have z2 := hOB2.cell 2; have t0 := hOB2.free 0; simp only [List.getElem?_toArray, List.getElem?_cons_zero, List.getElem?_cons_succ] at z0 z1 z2; have HOB2 := Lib.hid hOB2; have HX2 := Lib.hid ho2; have HDQ : Hid (q < u1.heap.size) := Lib.hid (blk_lt HOB1.out.box); have HDE : Hid (∀ j, (Value.slice ea FL.length ec).ownBlock = some j → j < u1.heap.size) := Lib.hid (own_lt HOB1.out.ents); clear ho2 hb2 hOB2) | (go_at_call 69; (refine (HTK.out _ (OB.store (per' := x.length) HOB2.out (by rfl))).mono ?_); rintro e u3 ⟨rfl, hb3⟩; have hOB3 := (OB.store (i := 0) (u := .int .i64 (x.length : Int)) (per' := x.length) HOB2.out (by rfl)).call hb3; have HX3 := Lib.hid (OwnE.below (row_set (i := 0) (u := .int .i64 (x.length : Int)) HX2.out HDQ.out) hb3); have z1 := hOB3.cell 1; have z2 := hOB3.cell 2; have t1 := hOB3.free 1; simp only [List.getElem?_toArray, List.getElem?_cons_zero, List.getElem?_cons_succ] at z1 z2; have HOB3 := Lib.hid hOB3; clear hb3 hOB3))
          go_ret2
          exact ⟨HOB3.out.be, .inr ⟨.inr (.inr ⟨x, HGB.out, HNK.out⟩), rfl⟩⟩
        | true =>
          have HOKX : Hid (NextOk ps x) := Lib.hid ((HNI.out x _ HPE.out).1 hk)
          rw [hk] at HTK
          clear hk
          have HRO : Hid (∀ (xv : Value) (wz : World) (D : Nat), OwnE wz D xv x → Calls Try.prog 25 #[xv, .int .i64 ((tabQ ps).length : Int), .int .i64 ((frRaw (blockL x)).length : Int)] wz fun e w' => e = .returned (rwV (rowP x (tabQ ps).length)) ∧ Below wz.heap.size wz w') := Lib.hid fun xv wz D h => rowOf_any xv x _ _ wz (h.read HXF.out) HXN.out
          go_enter Try.func50, Try.ntmps50
          go_upto_region 10 with (first | (go_at_call 51; (refine (HG.out _ HO0.out.be).mono ?_); rintro e u1 ⟨y1, rfl, ho1, hb1⟩; have HY1 := Lib.hid ho1.read; have HOB1 := Lib.hid (HO0.out.call hb1); clear ho1 hb1) | (go_at_call 68; (refine (HBG.out _ _ HY1.out).mono ?_); rintro e u2 ⟨xv, rfl, ho2, hb2⟩; (obtain ⟨xa, xc, hxv, _, _⟩ := ho2.form); subst hxv; have hOB2 := HOB1.out.call hb2; have z0 := hOB2.cell 0; have z1 := hOB2.cell 1; have z2 := hOB2.cell 2; have t0 := hOB2.free 0; simp only [List.getElem?_toArray, List.getElem?_cons_zero, List.getElem?_cons_succ] at z0 z1 z2; have HOB2 := Lib.hid hOB2; have HX2 := Lib.hid ho2; have HDQ : Hid (q < u1.heap.size) := Lib.hid (blk_lt HOB1.out.box); have HDE : Hid (∀ j, (Value.slice ea FL.length ec).ownBlock = some j → j < u1.heap.size) := Lib.hid (own_lt HOB1.out.ents); clear ho2 hb2 hOB2) | (go_at_call 69; (refine (HTK.out _ (OB.store (per' := x.length) HOB2.out (by rfl))).mono ?_); rintro e u3 ⟨rfl, hb3⟩; have hOB3 := (OB.store (i := 0) (u := .int .i64 (x.length : Int)) (per' := x.length) HOB2.out (by rfl)).call hb3; have HX3 := Lib.hid (OwnE.below (row_set (i := 0) (u := .int .i64 (x.length : Int)) HX2.out HDQ.out) hb3); have z1 := hOB3.cell 1; have z2 := hOB3.cell 2; have t1 := hOB3.free 1; simp only [List.getElem?_toArray, List.getElem?_cons_zero, List.getElem?_cons_succ] at z1 z2; have HOB3 := Lib.hid hOB3; clear hb3 hOB3) | (at_builtin; refine wpList_plain rfl fun K' hK' => ?_; refine wp_append_at (.tmp 49) (.tmp 50) 25 rfl 34 4 48 (.agg #[.string ⟨#[]⟩, .int .i64 0, .int .i64 0, .string ⟨#[]⟩]) Try.underlying25 info_ent rfl (by decide) _ _ _ _ _ _ rfl rfl HOB3.out.ents0 (rd_of_own HX3.out) (entFlat_one _) (by have h1 := HFE.out; have h2 := HXL.out; omega) (by have h1 := HFE.out; have h2 := HXL.out; unfold maxLen; omega) (fun v5 w5 hown5 hmv5 => hK' _ _ ?_); obtain ⟨hOB5, c5, f5⟩ := HOB3.out.putE hown5 hmv5; have HXX := Lib.hid (row_past (i := 1) (u := v5) HX3.out hmv5 HDE.out HDQ.out); (obtain ⟨ea5, ec5, hea5, _, _⟩ := hOB5.ents.form); (rw [List.length_append] at hea5); subst hea5; have HOB5 := Lib.hid hOB5; clear hOB5 hown5 hmv5))
          have HOBr := Lib.hid (HOB5.out.call (Below.refl _ _).drew)
          have HXr := Lib.hid (OwnE.below HXX.out (Below.refl _ _).drew)
          refine wp_region_two (fun wz => wz.cell? ⟨q, 2, none⟩ = some (.slice ra (rowsQ ps).length rc)) (fun _ => True) [(0, 0), (0, 1), (0, 2), (0, 3), (0, 4), (0, 5), (0, 6), (0, 7), (0, 8), (0, 9), (2, 10), (2, 11), (2, 12), (0, 13), (0, 14), (3, 15)] [15] (by kernel_rfl) (by kernel_rfl) (by kernel_rfl) (by kernel_rfl) (by kernel_rfl) (HOBr.out.cell 2) trivial ?_
          simp only [planT, List.drop_succ_cons, List.drop_zero]
          refine PlanT.take0 (v := ?vA0) (by kernel_rfl) ?yA0 ?rA0
          case yA0 => (intro wz hz; have z2 := hz; go_simp; try with_reducible rfl)
          (try simp only [Act.put, List.setIfInBounds_toArray, List.set_cons_zero, List.set_cons_succ])
          refine PlanT.take0 (v := ?vA1) (by kernel_rfl) ?yA1 ?rA1
          case yA1 => (intro wz hz; have z2 := hz; go_simp; try with_reducible rfl)
          (try simp only [Act.put, List.setIfInBounds_toArray, List.set_cons_zero, List.set_cons_succ])
          refine PlanT.take0 (v := ?vA2) (by kernel_rfl) ?yA2 ?rA2
          case yA2 => (intro wz hz; have z2 := hz; go_simp; try with_reducible rfl)
          (try simp only [Act.put, List.setIfInBounds_toArray, List.set_cons_zero, List.set_cons_succ])
          refine PlanT.take0 (v := ?vA3) (by kernel_rfl) ?yA3 ?rA3
          case yA3 => (intro wz hz; have z2 := hz; go_simp; try with_reducible rfl)
          (try simp only [Act.put, List.setIfInBounds_toArray, List.set_cons_zero, List.set_cons_succ])
          refine PlanT.take0 (v := ?vA4) (by kernel_rfl) ?yA4 ?rA4
          case yA4 => (intro wz hz; have z2 := hz; go_simp; try with_reducible rfl)
          (try simp only [Act.put, List.setIfInBounds_toArray, List.set_cons_zero, List.set_cons_succ])
          refine PlanT.take0 (v := ?vA5) (by kernel_rfl) ?yA5 ?rA5
          case yA5 => (intro wz hz; have z2 := hz; go_simp; try with_reducible rfl)
          (try simp only [Act.put, List.setIfInBounds_toArray, List.set_cons_zero, List.set_cons_succ])
          refine PlanT.take0 (v := ?vA6) (by kernel_rfl) ?yA6 ?rA6
          case yA6 => (intro wz hz; have z2 := hz; go_simp; try with_reducible rfl)
          (try simp only [Act.put, List.setIfInBounds_toArray, List.set_cons_zero, List.set_cons_succ])
          refine PlanT.take0 (v := ?vA7) (by kernel_rfl) ?yA7 ?rA7
          case yA7 => (intro wz hz; have z2 := hz; go_simp; try with_reducible rfl)
          (try simp only [Act.put, List.setIfInBounds_toArray, List.set_cons_zero, List.set_cons_succ])
          refine PlanT.take0 (v := ?vA8) (by kernel_rfl) ?yA8 ?rA8
          case yA8 => (intro wz hz; have z2 := hz; go_simp; try with_reducible rfl)
          (try simp only [Act.put, List.setIfInBounds_toArray, List.set_cons_zero, List.set_cons_succ])
          refine PlanT.take0 (v := .int .i64 ((frRaw (blockL x)).length : Int)) (by kernel_rfl) ?yA9 ?rA9
          case yA9 => (intro wz hz; have z2 := hz; go_simp; try with_reducible rfl)
          (try simp only [Act.put, List.setIfInBounds_toArray, List.set_cons_zero, List.set_cons_succ])
          refine PlanT.exec2 (fun K hK => ⟨by kernel_rfl, ?_⟩)
          go_simp
          refine (HRO.out _ _ _ HXr.out).mono ?_
          rintro e u4 ⟨rfl, hb4⟩
          have HOB4 := Lib.hid (HOBr.out.call hb4)
          clear hb4
          refine hK.out _ _ (HOB4.out.cell 2) trivial ?_
          clear hK K
          (try simp only [Act.put, List.setIfInBounds_toArray, List.set_cons_zero, List.set_cons_succ])
          refine PlanT.exec2 (fun K hK => ⟨by kernel_rfl, ?_⟩)
          go_simp
          have hba : Below u4.heap.size u4 (u4.alloc (.cells #[.string (lastE x).u, .int .i64 (lastE x).s, .int .i64 (lastE x).k, .int .i64 ((tabQ ps).length : Int), .int .i64 ((frRaw (blockL x)).length : Int)] 67)) := (Below.refl _ _).alloc (Nat.le_refl _) _
          have HOB5 := Lib.hid (HOB4.out.call hba)
          clear hba
          refine hK.out _ _ (HOB5.out.cell 2) trivial ?_
          clear hK K
          (try simp only [Act.put, List.setIfInBounds_toArray, List.set_cons_zero, List.set_cons_succ])
          refine PlanT.exec2 (fun K hK => ⟨by kernel_rfl, ?_⟩)
          refine wp_append_at (.tmp 58) (.tmp 65) 60 rfl 67 5 48 (.agg #[.string ⟨#[]⟩, .int .i64 0, .int .i64 0, .int .i64 0, .int .i64 0]) Try.underlying60 info_rw rfl (by decide) _ _ _ 1 _ ([rowP x (tabQ ps).length].flatMap Rw.cells) rfl rfl HOB5.out.rows0 (one_rw u4 (rowP x (tabQ ps).length)) (rwFlat_one _) (by have := HRL.out; omega) (by have := HRL.out; unfold maxLen; omega) ?kA
          intro v6 w6 hown6 hmv6
          obtain ⟨hOB6, c6, f6⟩ := HOB5.out.putR (m := [rowP x (tabQ ps).length]) hown6 hmv6
          obtain ⟨ra6, rc6, hra6, _, _⟩ := hOB6.rows.form
          rw [List.length_append, List.length_singleton] at hra6
          subst hra6
          have HOB6 := Lib.hid hOB6
          clear hOB6 hown6 hmv6
          refine hK.out _ _ c6 trivial ?_
          clear hK K
          (try simp only [Act.put, List.setIfInBounds_toArray, List.set_cons_zero, List.set_cons_succ])
          refine PlanT.take0 (v := ?vA13) (by kernel_rfl) ?yA13 ?rA13
          case yA13 => (intro wz hz; go_simp; try with_reducible rfl)
          (try simp only [Act.put, List.setIfInBounds_toArray, List.set_cons_zero, List.set_cons_succ])
          refine PlanT.take0 (v := ?vA14) (by kernel_rfl) ?yA14 ?rA14
          case yA14 => (intro wz hz; go_simp; try with_reducible rfl)
          (try simp only [Act.put, List.setIfInBounds_toArray, List.set_cons_zero, List.set_cons_succ])
          refine PlanT.exec3 (fun K hK => ⟨by kernel_rfl, ?_⟩)
          go_simp
          refine hK.out _ _ trivial ?_
          clear hK K
          (try simp only [Act.put, List.setIfInBounds_toArray, List.set_cons_zero, List.set_cons_succ])
          refine PlanT.done (NoPanic.normal ?_)
          go_wp2
          go_ret2
          have hF := HOB6.out
          have hFN := firstN_more ps x
          rw [← HPE.out] at hFN
          rw [← HFX.out, ← rowsQ_snoc, ← hFN] at hF
          refine ⟨hF.be, .inl ⟨x, _, _, HFO.out, HGB.out, HOKX.out, ?_, hF⟩⟩
          rw [HNX.out]; push_cast; rfl
      · have HPE : Hid (firstN ps = if ps = [] then x.length else firstN ps) := Lib.hid (by rw [if_neg hps])
        have HPB : Hid (firstN ps ≤ 64) := Lib.hid (by
          have hp := List.length_pos_iff.2 hps
          unfold firstN
          cases hh : ps.head? with
          | none => exact absurd (List.head?_eq_none_iff.1 hh) hps
          | some p => exact (putErr_ok (HS.out.ok p (List.mem_of_mem_head? hh))).2.2)
        have hz : (rowsQ ps).length ≠ 0 := by rw [rowsQ_len]; have := List.length_pos_iff.2 hps; omega
        have d0 : (((rowsQ ps).length : Int) == 0) = false := by
          have : ((rowsQ ps).length : Int) ≠ 0 := by omega
          simpa using this
        have d0' : ¬ (rowsQ ps).length = 0 := hz
        have HPS := Lib.hid hps
        clear hps hz
        have HTK : Hid (∀ wz, OB W0 B q wz (firstN ps) (.slice ea FL.length ec) (.slice ra (rowsQ ps).length rc) vf FL (rowsQ ps) → Calls Try.prog 69 #[.pointer (some ⟨q, 0, none⟩), .int .i64 (x.length : Int)] wz fun e w' => e = .returned (.bool (okNext x.length (firstN ps) FL.length (rowsQ ps).length)) ∧ Below wz.heap.size wz w') := Lib.hid fun wz h => takes_any h.box (by have := HXL.out; omega) (by have := HPB.out; omega) (by have := HFE.out; omega) (by have := HRL.out; omega)
        cases hk : okNext x.length (firstN ps) FL.length (rowsQ ps).length with
        | false =>
          have HNK : Hid (¬ NextOk ps x) := Lib.hid (fun h => by have := (HNI.out x _ HPE.out).2 h; rw [hk] at this; cases this)
          rw [hk] at HTK
          clear hk
          go_enter Try.func50, Try.ntmps50
          go_wp2_with (first | (go_at_call 51; (refine (HG.out _ HO0.out.be).mono ?_); rintro e u1 ⟨y1, rfl, ho1, hb1⟩; have HY1 := Lib.hid ho1.read; have HOB1 := Lib.hid (HO0.out.call hb1); clear ho1 hb1) | (go_at_call 68; (refine (HBG.out _ _ HY1.out).mono ?_); rintro e u2 ⟨xv, rfl, ho2, hb2⟩; (obtain ⟨xa, xc, hxv, _, _⟩ := ho2.form); subst hxv; have hOB2 := HOB1.out.call hb2; have z0 := hOB2.cell 0; have z1 := hOB2.cell 1; have z2 := hOB2.cell 2; have t0 := hOB2.free 0; simp only [List.getElem?_toArray, List.getElem?_cons_zero, List.getElem?_cons_succ] at z0 z1 z2; have HOB2 := Lib.hid hOB2; have HX2 := Lib.hid ho2; have HDQ : Hid (q < u1.heap.size) := Lib.hid (blk_lt HOB1.out.box); have HDE : Hid (∀ j, (Value.slice ea FL.length ec).ownBlock = some j → j < u1.heap.size) := Lib.hid (own_lt HOB1.out.ents); clear ho2 hb2 hOB2) | (go_at_call 69; (refine (HTK.out _ HOB2.out).mono ?_); rintro e u3 ⟨rfl, hb3⟩; have hOB3 := HOB2.out.call hb3; have HX3 := Lib.hid (OwnE.below HX2.out hb3); have z1 := hOB3.cell 1; have z2 := hOB3.cell 2; have t1 := hOB3.free 1; simp only [List.getElem?_toArray, List.getElem?_cons_zero, List.getElem?_cons_succ] at z1 z2; have HOB3 := Lib.hid hOB3; clear hb3 hOB3))
          go_ret2
          exact ⟨HOB3.out.be, .inr ⟨.inr (.inr ⟨x, HGB.out, HNK.out⟩), rfl⟩⟩
        | true =>
          have HOKX : Hid (NextOk ps x) := Lib.hid ((HNI.out x _ HPE.out).1 hk)
          rw [hk] at HTK
          clear hk
          have HRO : Hid (∀ (xv : Value) (wz : World) (D : Nat), OwnE wz D xv x → Calls Try.prog 25 #[xv, .int .i64 ((tabQ ps).length : Int), .int .i64 ((frRaw (blockL x)).length : Int)] wz fun e w' => e = .returned (rwV (rowP x (tabQ ps).length)) ∧ Below wz.heap.size wz w') := Lib.hid fun xv wz D h => rowOf_any xv x _ _ wz (h.read HXF.out) HXN.out
          go_enter Try.func50, Try.ntmps50
          go_upto_region 10 with (first | (go_at_call 51; (refine (HG.out _ HO0.out.be).mono ?_); rintro e u1 ⟨y1, rfl, ho1, hb1⟩; have HY1 := Lib.hid ho1.read; have HOB1 := Lib.hid (HO0.out.call hb1); clear ho1 hb1) | (go_at_call 68; (refine (HBG.out _ _ HY1.out).mono ?_); rintro e u2 ⟨xv, rfl, ho2, hb2⟩; (obtain ⟨xa, xc, hxv, _, _⟩ := ho2.form); subst hxv; have hOB2 := HOB1.out.call hb2; have z0 := hOB2.cell 0; have z1 := hOB2.cell 1; have z2 := hOB2.cell 2; have t0 := hOB2.free 0; simp only [List.getElem?_toArray, List.getElem?_cons_zero, List.getElem?_cons_succ] at z0 z1 z2; have HOB2 := Lib.hid hOB2; have HX2 := Lib.hid ho2; have HDQ : Hid (q < u1.heap.size) := Lib.hid (blk_lt HOB1.out.box); have HDE : Hid (∀ j, (Value.slice ea FL.length ec).ownBlock = some j → j < u1.heap.size) := Lib.hid (own_lt HOB1.out.ents); clear ho2 hb2 hOB2) | (go_at_call 69; (refine (HTK.out _ HOB2.out).mono ?_); rintro e u3 ⟨rfl, hb3⟩; have hOB3 := HOB2.out.call hb3; have HX3 := Lib.hid (OwnE.below HX2.out hb3); have z1 := hOB3.cell 1; have z2 := hOB3.cell 2; have t1 := hOB3.free 1; simp only [List.getElem?_toArray, List.getElem?_cons_zero, List.getElem?_cons_succ] at z1 z2; have HOB3 := Lib.hid hOB3; clear hb3 hOB3) | (at_builtin; refine wpList_plain rfl fun K' hK' => ?_; refine wp_append_at (.tmp 49) (.tmp 50) 25 rfl 34 4 48 (.agg #[.string ⟨#[]⟩, .int .i64 0, .int .i64 0, .string ⟨#[]⟩]) Try.underlying25 info_ent rfl (by decide) _ _ _ _ _ _ rfl rfl HOB3.out.ents0 (rd_of_own HX3.out) (entFlat_one _) (by have h1 := HFE.out; have h2 := HXL.out; omega) (by have h1 := HFE.out; have h2 := HXL.out; unfold maxLen; omega) (fun v5 w5 hown5 hmv5 => hK' _ _ ?_); obtain ⟨hOB5, c5, f5⟩ := HOB3.out.putE hown5 hmv5; have HXX := Lib.hid (row_past (i := 1) (u := v5) HX3.out hmv5 HDE.out HDQ.out); (obtain ⟨ea5, ec5, hea5, _, _⟩ := hOB5.ents.form); (rw [List.length_append] at hea5); subst hea5; have HOB5 := Lib.hid hOB5; clear hOB5 hown5 hmv5))
          have HOBr := Lib.hid (HOB5.out.call (Below.refl _ _).drew)
          have HXr := Lib.hid (OwnE.below HXX.out (Below.refl _ _).drew)
          refine wp_region_two (fun wz => wz.cell? ⟨q, 2, none⟩ = some (.slice ra (rowsQ ps).length rc)) (fun _ => True) [(0, 0), (0, 1), (0, 2), (0, 3), (0, 4), (0, 5), (0, 6), (0, 7), (0, 8), (0, 9), (2, 10), (2, 11), (2, 12), (0, 13), (0, 14), (3, 15)] [15] (by kernel_rfl) (by kernel_rfl) (by kernel_rfl) (by kernel_rfl) (by kernel_rfl) (HOBr.out.cell 2) trivial ?_
          simp only [planT, List.drop_succ_cons, List.drop_zero]
          refine PlanT.take0 (v := ?vB0) (by kernel_rfl) ?yB0 ?rB0
          case yB0 => (intro wz hz; have z2 := hz; go_simp; try with_reducible rfl)
          (try simp only [Act.put, List.setIfInBounds_toArray, List.set_cons_zero, List.set_cons_succ])
          refine PlanT.take0 (v := ?vB1) (by kernel_rfl) ?yB1 ?rB1
          case yB1 => (intro wz hz; have z2 := hz; go_simp; try with_reducible rfl)
          (try simp only [Act.put, List.setIfInBounds_toArray, List.set_cons_zero, List.set_cons_succ])
          refine PlanT.take0 (v := ?vB2) (by kernel_rfl) ?yB2 ?rB2
          case yB2 => (intro wz hz; have z2 := hz; go_simp; try with_reducible rfl)
          (try simp only [Act.put, List.setIfInBounds_toArray, List.set_cons_zero, List.set_cons_succ])
          refine PlanT.take0 (v := ?vB3) (by kernel_rfl) ?yB3 ?rB3
          case yB3 => (intro wz hz; have z2 := hz; go_simp; try with_reducible rfl)
          (try simp only [Act.put, List.setIfInBounds_toArray, List.set_cons_zero, List.set_cons_succ])
          refine PlanT.take0 (v := ?vB4) (by kernel_rfl) ?yB4 ?rB4
          case yB4 => (intro wz hz; have z2 := hz; go_simp; try with_reducible rfl)
          (try simp only [Act.put, List.setIfInBounds_toArray, List.set_cons_zero, List.set_cons_succ])
          refine PlanT.take0 (v := ?vB5) (by kernel_rfl) ?yB5 ?rB5
          case yB5 => (intro wz hz; have z2 := hz; go_simp; try with_reducible rfl)
          (try simp only [Act.put, List.setIfInBounds_toArray, List.set_cons_zero, List.set_cons_succ])
          refine PlanT.take0 (v := ?vB6) (by kernel_rfl) ?yB6 ?rB6
          case yB6 => (intro wz hz; have z2 := hz; go_simp; try with_reducible rfl)
          (try simp only [Act.put, List.setIfInBounds_toArray, List.set_cons_zero, List.set_cons_succ])
          refine PlanT.take0 (v := ?vB7) (by kernel_rfl) ?yB7 ?rB7
          case yB7 => (intro wz hz; have z2 := hz; go_simp; try with_reducible rfl)
          (try simp only [Act.put, List.setIfInBounds_toArray, List.set_cons_zero, List.set_cons_succ])
          refine PlanT.take0 (v := ?vB8) (by kernel_rfl) ?yB8 ?rB8
          case yB8 => (intro wz hz; have z2 := hz; go_simp; try with_reducible rfl)
          (try simp only [Act.put, List.setIfInBounds_toArray, List.set_cons_zero, List.set_cons_succ])
          refine PlanT.take0 (v := .int .i64 ((frRaw (blockL x)).length : Int)) (by kernel_rfl) ?yB9 ?rB9
          case yB9 => (intro wz hz; have z2 := hz; go_simp; try with_reducible rfl)
          (try simp only [Act.put, List.setIfInBounds_toArray, List.set_cons_zero, List.set_cons_succ])
          refine PlanT.exec2 (fun K hK => ⟨by kernel_rfl, ?_⟩)
          go_simp
          refine (HRO.out _ _ _ HXr.out).mono ?_
          rintro e u4 ⟨rfl, hb4⟩
          have HOB4 := Lib.hid (HOBr.out.call hb4)
          clear hb4
          refine hK.out _ _ (HOB4.out.cell 2) trivial ?_
          clear hK K
          (try simp only [Act.put, List.setIfInBounds_toArray, List.set_cons_zero, List.set_cons_succ])
          refine PlanT.exec2 (fun K hK => ⟨by kernel_rfl, ?_⟩)
          go_simp
          have hba : Below u4.heap.size u4 (u4.alloc (.cells #[.string (lastE x).u, .int .i64 (lastE x).s, .int .i64 (lastE x).k, .int .i64 ((tabQ ps).length : Int), .int .i64 ((frRaw (blockL x)).length : Int)] 67)) := (Below.refl _ _).alloc (Nat.le_refl _) _
          have HOB5 := Lib.hid (HOB4.out.call hba)
          clear hba
          refine hK.out _ _ (HOB5.out.cell 2) trivial ?_
          clear hK K
          (try simp only [Act.put, List.setIfInBounds_toArray, List.set_cons_zero, List.set_cons_succ])
          refine PlanT.exec2 (fun K hK => ⟨by kernel_rfl, ?_⟩)
          refine wp_append_at (.tmp 58) (.tmp 65) 60 rfl 67 5 48 (.agg #[.string ⟨#[]⟩, .int .i64 0, .int .i64 0, .int .i64 0, .int .i64 0]) Try.underlying60 info_rw rfl (by decide) _ _ _ 1 _ ([rowP x (tabQ ps).length].flatMap Rw.cells) rfl rfl HOB5.out.rows0 (one_rw u4 (rowP x (tabQ ps).length)) (rwFlat_one _) (by have := HRL.out; omega) (by have := HRL.out; unfold maxLen; omega) ?kB
          intro v6 w6 hown6 hmv6
          obtain ⟨hOB6, c6, f6⟩ := HOB5.out.putR (m := [rowP x (tabQ ps).length]) hown6 hmv6
          obtain ⟨ra6, rc6, hra6, _, _⟩ := hOB6.rows.form
          rw [List.length_append, List.length_singleton] at hra6
          subst hra6
          have HOB6 := Lib.hid hOB6
          clear hOB6 hown6 hmv6
          refine hK.out _ _ c6 trivial ?_
          clear hK K
          (try simp only [Act.put, List.setIfInBounds_toArray, List.set_cons_zero, List.set_cons_succ])
          refine PlanT.take0 (v := ?vB13) (by kernel_rfl) ?yB13 ?rB13
          case yB13 => (intro wz hz; go_simp; try with_reducible rfl)
          (try simp only [Act.put, List.setIfInBounds_toArray, List.set_cons_zero, List.set_cons_succ])
          refine PlanT.take0 (v := ?vB14) (by kernel_rfl) ?yB14 ?rB14
          case yB14 => (intro wz hz; go_simp; try with_reducible rfl)
          (try simp only [Act.put, List.setIfInBounds_toArray, List.set_cons_zero, List.set_cons_succ])
          refine PlanT.exec3 (fun K hK => ⟨by kernel_rfl, ?_⟩)
          go_simp
          refine hK.out _ _ trivial ?_
          clear hK K
          (try simp only [Act.put, List.setIfInBounds_toArray, List.set_cons_zero, List.set_cons_succ])
          refine PlanT.done (NoPanic.normal ?_)
          go_wp2
          go_ret2
          have hF := HOB6.out
          have hFN := firstN_more ps x
          rw [← HPE.out] at hFN
          rw [← HFX.out, ← rowsQ_snoc, ← hFN] at hF
          refine ⟨hF.be, .inl ⟨x, _, _, HFO.out, HGB.out, HOKX.out, ?_, hF⟩⟩
          rw [HNX.out]; push_cast; rfl
end Go.Proofs.Yteeikmpfgbfeoaa
