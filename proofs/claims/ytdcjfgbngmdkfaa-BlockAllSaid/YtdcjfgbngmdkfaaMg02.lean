import Derived.Test.YtdcjfgbngmdkfaaBlkRPut
import Derived.Test.YtdcjfgbngmdkfaaBlkEntBy
import Derived.Test.YtdcjfgbngmdkfaaRefText
import Derived.Test.YtdcjfgbngmdkfaaFixedOut
import Derived.Test.YtdcjfgbngmdkfaaBlkGet
import Derived.Test.YtdcjfgbngmdkfaaOwnEnt
import Derived.Test.YtdcjfgbngmdkfaaKeyRefCmp
import Derived.Test.YtdcjfgbngmdkfaaRegion
import Derived.Deep.Cut

/-
  Blocks: the entries of a block, as the document tells them.
-/
namespace Go.Proofs.Ytdcjfgbngmdkfaa
open Go.RowKit

/-- What a call tells that tells the entries of a block. -/
def RetGet (w : World) (b : List UInt8) (e : Ending) (w' : World) : Prop :=
  ∃ x, e = .returned (.tuple #[x, .bool (getB b).isSome]) ∧ OwnE w' w.heap.size x ((getB b).getD []) ∧ Below w.heap.size w w'

theorem OwnE.nil (w : World) (B : Nat) : OwnE w B (.slice none 0 0) [] := World.ownsRow_nil _ _ _ _
theorem RetGet.no {w w' : World} {b : List UInt8} (h : getB b = none) (hb : Below w.heap.size w w') : RetGet w b (.returned (.tuple #[.slice none 0 0, .bool false])) w' :=
  ⟨_, by rw [h]; rfl, by rw [h]; exact OwnE.nil _ _, hb⟩
theorem RetGet.yes {w w' : World} {b : List UInt8} {es : List Ent} {x : Value} (h : IsBlk b es) (ho : OwnE w' w.heap.size x es) (hb : Below w.heap.size w w') : RetGet w b (.returned (.tuple #[x, .bool true])) w' :=
  ⟨_, by rw [getB_some h]; rfl, by rw [getB_some h]; exact ho, hb⟩

set_option maxRecDepth 100000 in
set_option maxHeartbeats 1000000 in
theorem rgetblk_any (v : Value) (b : List UInt8) (w : World) (hv : RdB w v b) (hl : b.length ≤ 1000000) : Calls Try.prog 12 #[v] w (RetGet w b) := by
  have HV := Lib.hid hv
  obtain ⟨va, vc, rfl, hc1, hc2⟩ := hv.form
  unfold maxLen at hc2
  clear hv
  have l1 : IntKind.i64.wrap ((b.length : Int) - 2) = (b.length : Int) - 2 := IntWalk.i64_in _ (by omega)
  by_cases g1 : b.length < 2
  · have HNO := Lib.hid (show getB b = none from getB_none fun es h => by have := h.count; omega)
    have HF := Lib.hid (rgetFixed_out (.slice va b.length vc) b ((b.length : Int) - 2) 2 (by omega) (by omega) w HV.out)
    go_enter Try.func12, Try.ntmps12
    go_wp2_with (go_at_call 32; (refine HF.out.mono ?_); rintro e w1 ⟨rfl, rfl⟩)
    go_ret2
    exact RetGet.no HNO.out (Below.refl _ _)
  · obtain ⟨m, hm⟩ : ∃ m, b.length = m + 2 := ⟨b.length - 2, by omega⟩
    have hgf := rgetFixed_yes (.slice va b.length vc) b m 2 (by omega) (by omega) w HV.out
    have htk : (b.drop m).take 2 = b.drop (b.length - 2) := by rw [List.take_of_length_le (by rw [List.length_drop]; omega), hm, Nat.add_sub_cancel]
    rw [htk] at hgf
    have HCO := Lib.hid (fun es (h : IsBlk b es) => h.count)
    have HBO := Lib.hid (fun es (h : IsBlk b es) => h.body)
    have hvl : valL (b.drop (b.length - 2)) < 65536 := by
      have := valL_lt (b.drop (b.length - 2))
      rw [List.length_drop, show b.length - (b.length - 2) = 2 by omega] at this
      exact this
    generalize valL (b.drop (b.length - 2)) = n at *
    have HF := Lib.hid (show Calls Try.prog 32 #[.slice va b.length vc, .int .i64 ((b.length : Int) - 2), .int .i64 2] w fun e w' => e = .returned (.tuple #[.int .i64 (n : Int), .bool true]) ∧ w = w' by rw [show (b.length : Int) - 2 = (m : Int) by omega]; exact hgf)
    clear hgf htk
    clear hm
    have g1' : 2 ≤ b.length := by omega
    clear m
    by_cases g2 : n < 1 ∨ b.length < n ∨ b.length < 4 * n + 2
    · have HNO := Lib.hid (show getB b = none from getB_none fun es h => by have := HCO.out es h; omega)
      have f4 : IntKind.i64.wrap (4 * (n : Int)) = 4 * (n : Int) := IntWalk.i64_in _ (by omega)
      have f5 : IntKind.i64.wrap (4 * (n : Int) + 2) = 4 * (n : Int) + 2 := IntWalk.i64_in _ (by omega)
      rcases g2 with g2 | g2
      · have f1 : decide ((n : Int) < 1) = true := by simp; omega
        clear HCO HBO
        go_enter Try.func12, Try.ntmps12
        go_wp2_with (go_at_call 32; (refine HF.out.mono ?_); rintro e w1 ⟨rfl, rfl⟩)
        go_ret2
        exact RetGet.no HNO.out (Below.refl _ _)
      · by_cases g3 : n < 1
        · omega
        · have f1 : decide ((n : Int) < 1) = false := by simp; omega
          by_cases g4 : b.length < n
          · have f2 : decide ((b.length : Int) < (n : Int)) = true := by simp; omega
            clear HCO HBO
            go_enter Try.func12, Try.ntmps12
            go_wp2_with (go_at_call 32; (refine HF.out.mono ?_); rintro e w1 ⟨rfl, rfl⟩)
            go_ret2
            exact RetGet.no HNO.out (Below.refl _ _)
          · have f2 : decide ((b.length : Int) < (n : Int)) = false := by simp; omega
            have f3 : decide ((b.length : Int) < 4 * (n : Int) + 2) = true := by simp; omega
            clear HCO HBO
            go_enter Try.func12, Try.ntmps12
            go_wp2_with (go_at_call 32; (refine HF.out.mono ?_); rintro e w1 ⟨rfl, rfl⟩)
            go_ret2
            exact RetGet.no HNO.out (Below.refl _ _)
    · have f1 : decide ((n : Int) < 1) = false := by simp; omega
      have f2 : decide ((b.length : Int) < (n : Int)) = false := by simp; omega
      have f3 : decide ((b.length : Int) < 4 * (n : Int) + 2) = false := by simp; omega
      have f4 : IntKind.i64.wrap (4 * (n : Int)) = 4 * (n : Int) := IntWalk.i64_in _ (by omega)
      have f5 : IntKind.i64.wrap (4 * (n : Int) + 2) = 4 * (n : Int) + 2 := IntWalk.i64_in _ (by omega)
      have f2n : decide (b.length < n) = false := by simp; omega
      have f1n : decide (n < 1) = false := by simp; omega
      have f3n : decide (b.length < 4 * n + 2) = false := by simp; omega
      obtain ⟨E, hE⟩ : ∃ E, b.length - 2 - 4 * n = E := ⟨_, rfl⟩
      have f6 : IntKind.i64.wrap ((b.length : Int) - 2 - 4 * (n : Int)) = (E : Int) := by rw [IntWalk.i64_in _ (by omega)]; omega
      rw [hE] at HBO
      have hEb : E ≤ b.length := by omega
      have hcl : (b.take E).length = E := by rw [List.length_take]; omega
      have HCL := Lib.hid hcl
      obtain ⟨bb, off, cap', hvv, _, _, _, _⟩ := HV.out.cells (by intro h; subst h; simp at g1')
      cases hvv
      have HSUB0 : Hid (∀ wz, Below w.heap.size w wz → RdB wz (.slice (some ⟨bb, off, none⟩) E vc) (b.take E)) := Lib.hid fun wz hz => by
        have h := sub_rd (HV.out.below hz (Nat.le_refl _)) 0 E (by omega) (by omega)
        rw [List.drop_zero] at h
        unfold RdB
        rw [hcl]
        simpa [Addr.add] using h
      generalize b.take E = c at *
      clear HCO hE hcl
      go_enter Try.func12, Try.ntmps12
      go_wp2_with (go_at_call 32; (refine HF.out.mono ?_); rintro e w1 ⟨rfl, rfl⟩)
      go_loopw [7, 8, 9] (fun l at_ last wr => ∃ (acc : List Ent) (p : Nat) (L : ByteArray), acc.length ≤ 65 ∧ p ≤ 1000000 ∧ at_ = .int .i64 (p : Int) ∧ last = .string L ∧ L.size ≤ 1000000 * acc.length ∧ Hid (OwnE wr w.heap.size l acc) ∧ Hid (Par c acc p) ∧ Hid (L = strB (prevU acc acc.length)) ∧ Hid (∀ e ∈ acc, e.fits) ∧ Hid (Below w.heap.size w wr)) (fun _ at_ _ _ => 1000000 - (intOf at_).toNat)
      case atStart => exact ⟨[], 0, ⟨#[]⟩, by simp, by omega, rfl, rfl, by simp [ByteArray.size], Lib.hid (OwnE.nil _ _), Lib.hid (Par.start c), Lib.hid rfl, Lib.hid (fun e h => by cases h), Lib.hid (Below.refl _ _)⟩
      case round =>
        obtain ⟨acc, p, L, hacc, hp1, rfl, rfl, hL, HO, HP, HLS, HFI, HB⟩ := hrel
        obtain ⟨la, lc, hla, hlc1, hlc2⟩ := HO.out.form
        subst hla
        unfold maxLen at hlc2
        have HNO := Lib.hid (show (p < E → stepP c (prevU acc acc.length) p = none → getB b = none) from fun h1 h2 => getB_none fun es he => HP.out.none_ (by rw [HCL.out]; exact h1) h2 es (HBO.out es he))
        have HSUB := Lib.hid (HSUB0.out wr HB.out)
        by_cases hpE : p < E
        · have k1 : decide ((p : Int) < (E : Int)) = true := by simp; omega
          by_cases h64 : acc.length ≤ 64
          · have k2 : decide ((acc.length : Int) ≤ 64) = true := by simp; omega
            have HPE := Lib.hid hpE
            have H64 := Lib.hid h64
            obtain ⟨s, a, p1, e1, t1, n1, bs, ba⟩ := ans3_form c (p : Int)
            obtain ⟨rs, d, p2, e2, t2, n2, brs, bd⟩ := ansT_form c (a : Int)
            obtain ⟨x, f, p3, e3, t3, n3, bx, bf⟩ := ans3_form c (d : Int)
            obtain ⟨vs, g, p4, e4, t4, n4, bvs, bg⟩ := ansT_form c (f : Int)
            rw [HCL.out] at ba brs bd bf bvs bg
            have HG1 : Hid (∀ wz, RdB wz (.slice (some ⟨bb, off, none⟩) E vc) c → Calls Try.prog 33 #[.slice (some ⟨bb, off, none⟩) E vc, .int .i64 (p : Int)] wz fun e w' => e = .returned (.tuple #[.int .i64 (s : Int), .int .i64 (a : Int), .bool p1]) ∧ wz = w') := Lib.hid fun wz h => by rw [← e1]; exact rget_any _ c p wz h
            have HG2 : Hid (∀ wz, RdB wz (.slice (some ⟨bb, off, none⟩) E vc) c → Calls Try.prog 34 #[.slice (some ⟨bb, off, none⟩) E vc, .int .i64 (a : Int)] wz fun e w' => e = .returned (.tuple #[.string (strB rs), .int .i64 (d : Int), .bool p2]) ∧ wz = w') := Lib.hid fun wz h => by rw [← e2]; exact rgetText_any _ c a wz h
            have HG3 : Hid (∀ wz, RdB wz (.slice (some ⟨bb, off, none⟩) E vc) c → Calls Try.prog 33 #[.slice (some ⟨bb, off, none⟩) E vc, .int .i64 (d : Int)] wz fun e w' => e = .returned (.tuple #[.int .i64 (x : Int), .int .i64 (f : Int), .bool p3]) ∧ wz = w') := Lib.hid fun wz h => by rw [← e3]; exact rget_any _ c d wz h
            have HG4 : Hid (∀ wz, RdB wz (.slice (some ⟨bb, off, none⟩) E vc) c → Calls Try.prog 34 #[.slice (some ⟨bb, off, none⟩) E vc, .int .i64 (f : Int)] wz fun e w' => e = .returned (.tuple #[.string (strB vs), .int .i64 (g : Int), .bool p4]) ∧ wz = w') := Lib.hid fun wz h => by rw [← e4]; exact rgetText_any _ c f wz h
            have T1 := Lib.hid t1
            have T2 := Lib.hid t2
            have T3 := Lib.hid t3
            have T4 := Lib.hid t4
            have N1 := Lib.hid n1
            have N2 := Lib.hid n2
            have N3 := Lib.hid n3
            have N4 := Lib.hid n4
            clear e1 e2 e3 e4 t1 t2 t3 t4 n1 n2 n3 n4 hpE h64
            cases p1 with
            | false =>
              have HR := Lib.hid (HNO.out HPE.out (step_no1 (N1.out rfl)))
              go_wp2_with (first | (go_at_call 33; first | ((with_reducible refine (HG1.out _ HSUB.out).mono ?_); rintro e w9 ⟨rfl, rfl⟩) | ((with_reducible refine (HG3.out _ HSUB.out).mono ?_); rintro e w9 ⟨rfl, rfl⟩)) | (go_at_call 34; first | ((with_reducible refine (HG2.out _ HSUB.out).mono ?_); rintro e w9 ⟨rfl, rfl⟩) | ((with_reducible refine (HG4.out _ HSUB.out).mono ?_); rintro e w9 ⟨rfl, rfl⟩)))
              go_ret2
              exact RetGet.no HR.out HB.out
            | true =>
              obtain ⟨n1, lt1⟩ := T1.out rfl
              have M1 := Lib.hid n1
              clear n1 T1 N1
              cases p2 with
              | false =>
                have HR := Lib.hid (HNO.out HPE.out (step_no2 M1.out (N2.out rfl)))
                go_wp2_with (first | (go_at_call 33; first | ((with_reducible refine (HG1.out _ HSUB.out).mono ?_); rintro e w9 ⟨rfl, rfl⟩) | ((with_reducible refine (HG3.out _ HSUB.out).mono ?_); rintro e w9 ⟨rfl, rfl⟩)) | (go_at_call 34; first | ((with_reducible refine (HG2.out _ HSUB.out).mono ?_); rintro e w9 ⟨rfl, rfl⟩) | ((with_reducible refine (HG4.out _ HSUB.out).mono ?_); rintro e w9 ⟨rfl, rfl⟩)))
                go_ret2
                exact RetGet.no HR.out HB.out
              | true =>
                obtain ⟨n2, lt2⟩ := T2.out rfl
                have M2 := Lib.hid n2
                clear n2 T2 N2
                cases p3 with
                | false =>
                  have HR := Lib.hid (HNO.out HPE.out (step_no3 M1.out M2.out (N3.out rfl)))
                  go_wp2_with (first | (go_at_call 33; first | ((with_reducible refine (HG1.out _ HSUB.out).mono ?_); rintro e w9 ⟨rfl, rfl⟩) | ((with_reducible refine (HG3.out _ HSUB.out).mono ?_); rintro e w9 ⟨rfl, rfl⟩)) | (go_at_call 34; first | ((with_reducible refine (HG2.out _ HSUB.out).mono ?_); rintro e w9 ⟨rfl, rfl⟩) | ((with_reducible refine (HG4.out _ HSUB.out).mono ?_); rintro e w9 ⟨rfl, rfl⟩)))
                  go_ret2
                  exact RetGet.no HR.out HB.out
                | true =>
                  obtain ⟨n3, lt3⟩ := T3.out rfl
                  have M3 := Lib.hid n3
                  clear n3 T3 N3
                  cases p4 with
                  | false =>
                    have HR := Lib.hid (HNO.out HPE.out (step_no4 M1.out M2.out M3.out (N4.out rfl)))
                    go_wp2_with (first | (go_at_call 33; first | ((with_reducible refine (HG1.out _ HSUB.out).mono ?_); rintro e w9 ⟨rfl, rfl⟩) | ((with_reducible refine (HG3.out _ HSUB.out).mono ?_); rintro e w9 ⟨rfl, rfl⟩)) | (go_at_call 34; first | ((with_reducible refine (HG2.out _ HSUB.out).mono ?_); rintro e w9 ⟨rfl, rfl⟩) | ((with_reducible refine (HG4.out _ HSUB.out).mono ?_); rintro e w9 ⟨rfl, rfl⟩)))
                    go_ret2
                    exact RetGet.no HR.out HB.out
                  | true =>
                    obtain ⟨n4, lt4⟩ := T4.out rfl
                    have M4 := Lib.hid n4
                    clear n4 T4 N4
                    have HLL := Lib.hid (show L.size = (prevU acc acc.length).length by rw [HLS.out, strB_size])
                    have HST := Lib.hid (step_by (last := prevU acc acc.length) M1.out M2.out M3.out M4.out)
                    by_cases hs : L.size < s
                    · have k3 : decide ((L.size : Int) < (s : Int)) = true := by simp; omega
                      have HR := Lib.hid (HNO.out HPE.out (by rw [HST.out, if_pos (by rw [← HLL.out]; exact hs)]))
                      go_wp2_with (first | (go_at_call 33; first | ((with_reducible refine (HG1.out _ HSUB.out).mono ?_); rintro e w9 ⟨rfl, rfl⟩) | ((with_reducible refine (HG3.out _ HSUB.out).mono ?_); rintro e w9 ⟨rfl, rfl⟩)) | (go_at_call 34; first | ((with_reducible refine (HG2.out _ HSUB.out).mono ?_); rintro e w9 ⟨rfl, rfl⟩) | ((with_reducible refine (HG4.out _ HSUB.out).mono ?_); rintro e w9 ⟨rfl, rfl⟩)))
                      go_ret2
                      exact RetGet.no HR.out HB.out
                    · have k3 : decide ((L.size : Int) < (s : Int)) = false := by simp; omega
                      have HP2 := Lib.hid (HP.out.more (by rw [HCL.out]; exact HPE.out) (by rw [HST.out, if_neg (by rw [← HLL.out]; exact hs)]))
                      have HXE := Lib.hid (show ent_by L s x rs vs = ⟨strB ((prevU acc acc.length).take s ++ rs), ((x / 2 : Nat) : Int), ((1 + x % 2 : Nat) : Int), strB vs⟩ from ent_same HLS.out)
                      rw [← HXE.out] at HP2
                      have HFX := Lib.hid (ent_fits (L := L) (s := s) (x := x) (rs := rs) (vs := vs) (by omega) bx (by omega) (by omega))
                      have HLX := Lib.hid (ent_len (L := L) (s := s) (rs := rs))
                      go_wp2_with (first | (go_at_call 33; first | ((with_reducible refine (HG1.out _ HSUB.out).mono ?_); rintro e w9 ⟨rfl, rfl⟩) | ((with_reducible refine (HG3.out _ HSUB.out).mono ?_); rintro e w9 ⟨rfl, rfl⟩)) | (go_at_call 34; first | ((with_reducible refine (HG2.out _ HSUB.out).mono ?_); rintro e w9 ⟨rfl, rfl⟩) | ((with_reducible refine (HG4.out _ HSUB.out).mono ?_); rintro e w9 ⟨rfl, rfl⟩)) | (at_builtin; refine wpList_append_rd rfl (.tmp 127) (.tmp 137) 22 rfl w.heap.size 36 4 48 (.agg #[.string ⟨#[]⟩, .int .i64 0, .int .i64 0, .string ⟨#[]⟩]) Try.underlying22 info_ent rfl (by decide) (.slice la acc.length lc) (.slice (some ⟨wr.heap.size, 0, none⟩) 1 1) acc.length 1 (acc.flatMap Ent.cells) ([ent_by L s x rs vs].flatMap Ent.cells) rfl rfl (World.ownsRow.alloc HO.out _) (one_entry wr (ent_by L s x rs vs)) (entFlat_one _) ?bA ?l1 ?l2 ?kk))
                      case bA => exact Nat.le_trans HB.out.size (by simp)
                      case l1 => omega
                      case l2 => unfold maxLen; omega
                      case kk =>
                        intro v' w' hown' hb'
                        go_wp2
                        refine ⟨⟨acc ++ [ent_by L s x rs vs], g, _, by have := H64.out; simp; omega, by omega, rfl, rfl, ?_, Lib.hid ?_, HP2, Lib.hid ?_, Lib.hid ?_, Lib.hid (hb' _ _ (Nat.le_refl _) (HB.out.alloc HB.out.size _))⟩, by simp [intOf]; omega⟩
                        · have := HLX.out
                          simp only [List.length_append, List.length_cons, List.length_nil]
                          omega
                        · unfold OwnE
                          simpa using hown'
                        · rw [show (acc ++ [ent_by L s x rs vs]).length = acc.length + 1 by simp, prevU_snoc]
                          exact (strB_data _).symm
                        · intro e he
                          rcases List.mem_append.1 he with he | he
                          · exact HFI.out e he
                          · rw [List.mem_singleton.1 he]
                            exact HFX.out
          · have k2 : decide ((acc.length : Int) ≤ 64) = false := by simp; omega
            have HQ := Lib.hid (show ∀ es, IsBlk b es → es = acc from fun es he => by
              have h1 := (HP.out es (HBO.out es he)).1
              have h2 := (putErr_ok he.1).2.2
              omega)
            have HRD := Lib.hid (HO.out.read HFI.out)
            have HPB : Hid (Calls Try.prog 10 #[.slice la acc.length lc] wr (RetPut wr acc)) := Lib.hid (rputblk_any _ acc wr HRD.out)
            by_cases he0 : putErr acc = 0
            · have HPB0 : Hid (Calls Try.prog 10 #[.slice la acc.length lc] wr fun e w' => ∃ x, e = .returned (.tuple #[x, .int .i64 0]) ∧ OwnB w' wr.heap.size 5 x (blockL acc) ∧ Below wr.heap.size wr w') := Lib.hid (by have h := HPB.out; unfold RetPut at h; rw [he0, if_pos rfl] at h; exact h)
              by_cases hbq : blockL acc = b
              · have HIS := Lib.hid (show IsBlk b acc from ⟨he0, hbq⟩)
                rw [hbq] at HPB0
                clear hbq he0
                go_wp2_with (go_at_call 10; (refine HPB0.out.mono ?_); rintro e w9 ⟨x9, rfl, ho9, hb9⟩; have q1 := rdB_convert (P := Try.prog) ho9.read 23 5 9 Try.underlying23 Try.underlying5 Try.underlying9; have q2 := rdB_convert (P := Try.prog) (HV.out.below (HB.out.trans (hb9.mono HB.out.size)) (Nat.le_refl _)) 23 5 9 Try.underlying23 Try.underlying5 Try.underlying9)
                go_ret2
                exact RetGet.yes HIS.out (HO.out.below hb9) (HB.out.trans (hb9.mono HB.out.size))
              · have HR := Lib.hid (show getB b = none from getB_none fun es he => hbq (by rw [← HQ.out es he]; exact he.2))
                have hne1 : (blockL acc == b) = false := by
                  rw [beq_eq_false_iff_ne]
                  exact hbq
                clear hbq he0
                go_wp2_with (go_at_call 10; (refine HPB0.out.mono ?_); rintro e w9 ⟨x9, rfl, ho9, hb9⟩; have q1 := rdB_convert (P := Try.prog) ho9.read 23 5 9 Try.underlying23 Try.underlying5 Try.underlying9; have q2 := rdB_convert (P := Try.prog) (HV.out.below (HB.out.trans (hb9.mono HB.out.size)) (Nat.le_refl _)) 23 5 9 Try.underlying23 Try.underlying5 Try.underlying9)
                go_ret2
                exact RetGet.no HR.out (HB.out.trans (hb9.mono HB.out.size))
            · have HR := Lib.hid (show getB b = none from getB_none fun es he => he0 (by rw [← HQ.out es he]; exact he.1))
              obtain ⟨er, her⟩ : ∃ er, putErr acc = er := ⟨_, rfl⟩
              have HPB1 : Hid (Calls Try.prog 10 #[.slice la acc.length lc] wr fun e w' => ∃ x, e = .returned (.tuple #[x, .int .i64 er]) ∧ Below wr.heap.size wr w') := Lib.hid (by
                refine HPB.out.mono ?_
                rintro e w' ⟨x, rfl, _, h⟩
                exact ⟨x, by rw [her], h⟩)
              rw [her] at he0
              have her1 : (er == 0) = false := by simpa using he0
              have her2 : (er != 0) = true := by simpa using he0
              clear her
              go_wp2_with (go_at_call 10; (refine HPB1.out.mono ?_); rintro e w9 ⟨x9, rfl, hb9⟩)
              go_ret2
              exact RetGet.no HR.out (HB.out.trans (hb9.mono HB.out.size))
        · have k1 : decide ((p : Int) < (E : Int)) = false := by simp; omega
          have HQ := Lib.hid (show ∀ es, IsBlk b es → es = acc from fun es he => HP.out.end_ (by rw [HCL.out]; exact hpE) (HBO.out es he))
          have HRD := Lib.hid (HO.out.read HFI.out)
          have HPB : Hid (Calls Try.prog 10 #[.slice la acc.length lc] wr (RetPut wr acc)) := Lib.hid (rputblk_any _ acc wr HRD.out)
          by_cases he0 : putErr acc = 0
          · have HPB0 : Hid (Calls Try.prog 10 #[.slice la acc.length lc] wr fun e w' => ∃ x, e = .returned (.tuple #[x, .int .i64 0]) ∧ OwnB w' wr.heap.size 5 x (blockL acc) ∧ Below wr.heap.size wr w') := Lib.hid (by have h := HPB.out; unfold RetPut at h; rw [he0, if_pos rfl] at h; exact h)
            by_cases hbq : blockL acc = b
            · have HIS := Lib.hid (show IsBlk b acc from ⟨he0, hbq⟩)
              rw [hbq] at HPB0
              clear hbq he0
              go_wp2_with (go_at_call 10; (refine HPB0.out.mono ?_); rintro e w9 ⟨x9, rfl, ho9, hb9⟩; have q1 := rdB_convert (P := Try.prog) ho9.read 23 5 9 Try.underlying23 Try.underlying5 Try.underlying9; have q2 := rdB_convert (P := Try.prog) (HV.out.below (HB.out.trans (hb9.mono HB.out.size)) (Nat.le_refl _)) 23 5 9 Try.underlying23 Try.underlying5 Try.underlying9)
              go_ret2
              exact RetGet.yes HIS.out (HO.out.below hb9) (HB.out.trans (hb9.mono HB.out.size))
            · have HR := Lib.hid (show getB b = none from getB_none fun es he => hbq (by rw [← HQ.out es he]; exact he.2))
              have hne1 : (blockL acc == b) = false := by
                rw [beq_eq_false_iff_ne]
                exact hbq
              clear hbq he0
              go_wp2_with (go_at_call 10; (refine HPB0.out.mono ?_); rintro e w9 ⟨x9, rfl, ho9, hb9⟩; have q1 := rdB_convert (P := Try.prog) ho9.read 23 5 9 Try.underlying23 Try.underlying5 Try.underlying9; have q2 := rdB_convert (P := Try.prog) (HV.out.below (HB.out.trans (hb9.mono HB.out.size)) (Nat.le_refl _)) 23 5 9 Try.underlying23 Try.underlying5 Try.underlying9)
              go_ret2
              exact RetGet.no HR.out (HB.out.trans (hb9.mono HB.out.size))
          · have HR := Lib.hid (show getB b = none from getB_none fun es he => he0 (by rw [← HQ.out es he]; exact he.1))
            obtain ⟨er, her⟩ : ∃ er, putErr acc = er := ⟨_, rfl⟩
            have HPB1 : Hid (Calls Try.prog 10 #[.slice la acc.length lc] wr fun e w' => ∃ x, e = .returned (.tuple #[x, .int .i64 er]) ∧ Below wr.heap.size wr w') := Lib.hid (by
              refine HPB.out.mono ?_
              rintro e w' ⟨x, rfl, _, h⟩
              exact ⟨x, by rw [her], h⟩)
            rw [her] at he0
            have her1 : (er == 0) = false := by simpa using he0
            have her2 : (er != 0) = true := by simpa using he0
            clear her
            go_wp2_with (go_at_call 10; (refine HPB1.out.mono ?_); rintro e w9 ⟨x9, rfl, hb9⟩)
            go_ret2
            exact RetGet.no HR.out (HB.out.trans (hb9.mono HB.out.size))
end Go.Proofs.Ytdcjfgbngmdkfaa

/-
  The first entry of a list that is not below a key, as the document seeks it.
-/
namespace Go.Proofs.Ytdcjfgbngmdkfaa
open Go.RowKit

set_option maxRecDepth 100000 in
set_option maxHeartbeats 1000000 in
theorem rabove_any {v : Value} {L : List Ent} {w : World} (hv : RdE w v L) (u : ByteArray) (s k : Int) :
    Calls Try.prog 14 #[v, .agg #[.string u, .int .i64 s, .int .i64 k]] w fun r w' => r = .returned (ansN (aboveL L u s k)) ∧ Below w.heap.size w w' := by
  obtain ⟨va, vc, rfl, hc1, hc2⟩ := hv.form
  unfold maxLen at hc2
  have HV := Lib.hid hv
  clear hv
  go_enter Try.func14, Try.ntmps14
  go_wp2
  go_loopw [6] (fun i wr => ∃ j : Nat, j ≤ L.length ∧ i = .int .i64 (j : Int) ∧ Hid (∀ a, a < j → (L.getD a Ent.none_).cmp ⟨u, s, k, ⟨#[]⟩⟩ < 0) ∧ Hid (Below w.heap.size w wr ∧ wr.heap[w.heap.size]? = some (.cells #[.string u, .int .i64 s, .int .i64 k] 25 (0, 0)) ∧ wr.heap[w.heap.size + 1]? = some (.cells #[.string ⟨#[]⟩, .int .i64 0, .int .i64 0, .string ⟨#[]⟩] 36 (0, 0)))) (fun i _ => L.length - (intOf i).toNat)
  case atStart => exact ⟨0, Nat.zero_le _, rfl, Lib.hid (fun j h => by omega), Lib.hid ⟨((Below.refl _ _).alloc (Nat.le_refl _) _).alloc (by simp) _, by rw [Below.heap_alloc _ _ _ (by simp)]; exact heap_alloc_new w _, heap_new2 w _ _⟩⟩
  case round =>
    obtain ⟨i, hi, rfl, HK, HB⟩ := hrel
    by_cases hlt : i < L.length
    · obtain ⟨_, _, hva, hone⟩ := HV.out.one
      cases hva
      obtain ⟨b, off, rfl, hbw, c0, c1, c2, c3, hfit⟩ := hone i hlt
      have HBW := Lib.hid hbw
      have HC0 := Lib.hid c0
      have HC1 := Lib.hid c1
      have HC2 := Lib.hid c2
      have HC3 := Lib.hid c3
      have z0 := (HB.out.1.cell (p := ⟨b, off + i * 4, none⟩) hbw).trans c0
      have z1 := (HB.out.1.cell (p := ⟨b, off + i * 4 + 1, none⟩) hbw).trans c1
      have z2 := (HB.out.1.cell (p := ⟨b, off + i * 4 + 2, none⟩) hbw).trans c2
      have y0 := blk_cell (i := 0) HB.out.2.1
      have y1 := blk_cell (i := 1) HB.out.2.1
      have y2 := blk_cell (i := 2) HB.out.2.1
      replace y0 : wr.cell? ⟨w.heap.size, 0, none⟩ = some (.string u) := y0
      replace y1 : wr.cell? ⟨w.heap.size, 1, none⟩ = some (.int .i64 s) := y1
      replace y2 : wr.cell? ⟨w.heap.size, 2, none⟩ = some (.int .i64 k) := y2
      have HAT := Lib.hid (@above_at L u s k i hlt HK.out)
      have HMO := Lib.hid (show (L.getD i Ent.none_).cmp ⟨u, s, k, ⟨#[]⟩⟩ < 0 → ∀ a, a < i + 1 → (L.getD a Ent.none_).cmp ⟨u, s, k, ⟨#[]⟩⟩ < 0 from fun h2 a ha => by
        rcases Nat.lt_or_ge a i with h1 | h1
        · exact HK.out a h1
        · obtain rfl : a = i := by omega
          exact h2)
      clear hone c0 c1 c2 c3 hfit hbw
      generalize L.getD i Ent.none_ = X at *
      obtain ⟨xu, xs, xk, xv⟩ := X
      simp only at z0 z1 z2 HC0 HC1 HC2 HC3
      obtain ⟨cm, hcm⟩ : ∃ cm, (Ent.mk xu xs xk xv).cmp ⟨u, s, k, ⟨#[]⟩⟩ = cm := ⟨_, rfl⟩
      have HC : Hid (∀ wz, Calls Try.prog 38 #[.agg #[.string xu, .int .i64 xs, .int .i64 xk], .agg #[.string u, .int .i64 s, .int .i64 k]] wz fun e w' => e = .returned (.int .i64 cm) ∧ Below wz.heap.size wz w') := Lib.hid fun wz => by rw [← hcm]; exact rcmp_any xu xs xk u s k wz
      rw [hcm] at HAT HMO
      clear hcm
      have hin : ((i : Nat) : Int) < (L.length : Int) := by omega
      go_upto_region 4 with (fail)
      refine wp_region_plan [(true, 0), (true, 1), (true, 2), (true, 3), (true, 4), (true, 5), (false, 6), (true, 7)] (by kernel_rfl) (by kernel_rfl) (by kernel_rfl) (by kernel_rfl) (by kernel_rfl) ?_
      simp only [planO, List.drop_succ_cons, List.drop_zero]
      refine PlanO.take (v := ?v0) (by kernel_rfl) ?y0 ?r0
      case y0 => (intro wz hz; go_simp; try with_reducible rfl)
      (try simp only [Act.put, List.setIfInBounds_toArray, List.set_cons_zero, List.set_cons_succ])
      refine PlanO.take (v := ?v1) (by kernel_rfl) ?y1 ?r1
      case y1 => (intro wz hz; go_simp; try with_reducible rfl)
      (try simp only [Act.put, List.setIfInBounds_toArray, List.set_cons_zero, List.set_cons_succ])
      refine PlanO.take (v := .pointer (some ⟨b, off + i * 4, none⟩)) (by kernel_rfl) ?y2 ?r2
      case y2 => (intro wz hz; go_simp; try (intro hkc; omega))
      (try simp only [Act.put, List.setIfInBounds_toArray, List.set_cons_zero, List.set_cons_succ])
      refine PlanO.take (v := .pointer (some ⟨b, off + i * 4, none⟩)) (by kernel_rfl) ?y3 ?r3
      case y3 => (intro wz hz; go_simp; try with_reducible rfl)
      (try simp only [Act.put, List.setIfInBounds_toArray, List.set_cons_zero, List.set_cons_succ])
      refine PlanO.take (v := .agg #[.string xu, .int .i64 xs, .int .i64 xk]) (by kernel_rfl) ?y4 ?r4
      case y4 => (intro wz hz; have c0 := Ext.at_ hz z0; have c1 := Ext.at_ hz z1; have c2 := Ext.at_ hz z2; go_simp; try with_reducible rfl)
      (try simp only [Act.put, List.setIfInBounds_toArray, List.set_cons_zero, List.set_cons_succ])
      refine PlanO.take (v := .agg #[.string u, .int .i64 s, .int .i64 k]) (by kernel_rfl) ?y5 ?r5
      case y5 => (intro wz hz; have c0 := Ext.at_ hz y0; have c1 := Ext.at_ hz y1; have c2 := Ext.at_ hz y2; go_simp; try with_reducible rfl)
      (try simp only [Act.put, List.setIfInBounds_toArray, List.set_cons_zero, List.set_cons_succ])
      refine PlanO.exec (fun K hK => ?_)
      go_simp
      go_at_call 38
      (refine (HC.out _).mono ?_)
      rintro e w3 ⟨rfl, hb3⟩
      have HB3 := Lib.hid hb3
      go_wp2_with fail
      refine hK.out _ _ HB3.out ?_
      clear hK K
      (try simp only [Act.put, List.setIfInBounds_toArray, List.set_cons_zero, List.set_cons_succ])
      refine PlanO.take (v := ?v7) (by kernel_rfl) ?y7 ?r7
      case y7 => (intro wz hz; go_simp; try with_reducible rfl)
      (try simp only [Act.put, List.setIfInBounds_toArray, List.set_cons_zero, List.set_cons_succ])
      refine PlanO.done (NoPanic.normal ?_)
      have hbr := below_draw10 HB3.out
      have HBR := Lib.hid hbr
      have HW3 := Lib.hid (HB.out.1.trans (hbr.mono HB.out.1.size))
      have HBX := Lib.hid (show w3.heap[w.heap.size]? = some (.cells #[.string u, .int .i64 s, .int .i64 k] 25 (0, 0)) ∧ w3.heap[w.heap.size + 1]? = some (.cells #[.string ⟨#[]⟩, .int .i64 0, .int .i64 0, .string ⟨#[]⟩] 36 (0, 0)) from ⟨(hbr.block _ (blk_lt HB.out.2.1)).trans HB.out.2.1, (hbr.block _ (blk_lt HB.out.2.2)).trans HB.out.2.2⟩)
      clear hb3 hbr z0 z1 z2 y0 y1 y2
      by_cases hcm : 0 ≤ cm
      · have hd : decide (0 ≤ cm) = true := by simpa using hcm
        have HR := Lib.hid (HAT.out (by omega))
        have x0 := (HW3.out.cell (p := ⟨b, off + i * 4, none⟩) HBW.out).trans HC0.out
        have x1 := (HW3.out.cell (p := ⟨b, off + i * 4 + 1, none⟩) HBW.out).trans HC1.out
        have x2 := (HW3.out.cell (p := ⟨b, off + i * 4 + 2, none⟩) HBW.out).trans HC2.out
        have x3 := (HW3.out.cell (p := ⟨b, off + i * 4 + 3, none⟩) HBW.out).trans HC3.out
        have hsr := HBX.out.2
        have s0 := blk_cell (i := 0) hsr
        have s1 := blk_cell (i := 1) hsr
        have s2 := blk_cell (i := 2) hsr
        have s3 := blk_cell (i := 3) hsr
        have t0 := blk_free (i := 0) hsr
        have t1 := blk_free (i := 1) hsr
        have t2 := blk_free (i := 2) hsr
        have t3 := blk_free (i := 3) hsr
        clear hsr HAT HMO
        go_wp2
        refine bodyPost_ret (results_row_tmp rfl _ _ (w.heap.size + 1) 36 #[.string xu, .int .i64 xs, .int .i64 xk, .string xv] (0, 0) _ rfl ?hgA Try.underlying36 rfl (by kernel_rfl)) rfl ?_
        case hgA => exact (set4 HBX.out.2 rfl rfl rfl rfl).1
        rw [HR.out]
        exact ⟨rfl, (set4 HBX.out.2 rfl rfl rfl rfl).2 _ (Nat.le_succ _) _ HW3.out⟩
      · have hd : decide (0 ≤ cm) = false := by simpa using hcm
        have HN := Lib.hid (HMO.out (by omega))
        clear HAT HMO
        go_wp2
        exact ⟨⟨i + 1, hlt, by go_num, HN, Lib.hid ⟨HW3.out, HBX.out⟩⟩, by simp [intOf]; omega⟩
    · have hie : i = L.length := by omega
      have HR := Lib.hid (above_no (es := L) (u := u) (s := s) (k := k) (fun j hj => HK.out j (by omega)))
      have hsr := HB.out.2.2
      have s0 := blk_cell (i := 0) hsr
      have s1 := blk_cell (i := 1) hsr
      have s2 := blk_cell (i := 2) hsr
      have s3 := blk_cell (i := 3) hsr
      have t0 := blk_free (i := 0) hsr
      have t1 := blk_free (i := 1) hsr
      have t2 := blk_free (i := 2) hsr
      have t3 := blk_free (i := 3) hsr
      clear hsr hie
      go_wp2
      refine bodyPost_ret (results_row_tmp rfl _ _ (w.heap.size + 1) 36 #[.string ⟨#[]⟩, .int .i64 0, .int .i64 0, .string ⟨#[]⟩] (0, 0) _ rfl ?hgB Try.underlying36 rfl (by kernel_rfl)) rfl ?_
      case hgB => exact (set4 HB.out.2.2 rfl rfl rfl rfl).1
      rw [HR.out]
      exact ⟨rfl, (set4 HB.out.2.2 rfl rfl rfl rfl).2 _ (Nat.le_succ _) _ HB.out.1⟩
end Go.Proofs.Ytdcjfgbngmdkfaa

/-
  Chapter 12, what is asked of package block: as contracts, which the walks take and the program's own texts give; what the statements go through.
-/
namespace Go.Proofs.Ytdcjfgbngmdkfaa
open Go.RowKit

def SmallE (es : List Ent) : Prop := es.length ≤ 1000 ∧ ∀ e ∈ es, e.u.size ≤ 1000 ∧ e.v.size ≤ 1000

def PutC : Prop := ∀ (v : Value) (es : List Ent) (w : World) (_ : RdE w v es) (_ : SmallE es), Calls Try.prog 9 #[v] w (RetPut w es)
def GetC : Prop := ∀ (v : Value) (b : List UInt8) (w : World) (_ : RdB w v b) (_ : b.length ≤ 1000000), Calls Try.prog 11 #[v] w (RetGet w b)
def SeekC : Prop := ∀ (v : Value) (b : List UInt8) (u : ByteArray) (s k : Int) (_ : u.size ≤ 1000) (_ : (Lit.int .i64 s).wf = true) (_ : (Lit.int .i64 k).wf = true) (w : World) (_ : RdB w v b) (_ : b.length ≤ 1000000),
    Calls Try.prog 13 #[v, .agg #[.string u, .int .i64 s, .int .i64 k]] w fun e w' => e = .returned (ansN (aboveL ((getB b).getD []) u s k)) ∧ Below w.heap.size w w'

set_option maxRecDepth 100000 in
theorem num12_any (n : Int) (w : World) : Calls Try.prog 15 #[.int .i64 n] w fun e w' => e = .returned (.int .i64 n) ∧ w = w' := by
  go_enter Try.func15, Try.ntmps15
  go_wp2
  go_ret
  exact ⟨rfl, rfl⟩

/-- Which it says: only where it is false all of them are small. -/
def FewE (es : List Ent) (e : Ending) : Prop := ∃ g : Bool, e = .returned (.bool g) ∧ (g = false → SmallE es)
theorem fewE_yes (es : List Ent) : FewE es (.returned (.bool true)) := ⟨true, rfl, fun h => by cases h⟩
theorem fewE_no {es : List Ent} (h : es.length ≤ 300) (h2 : ∀ j, j < es.length → (es.getD j Ent.none_).u.size ≤ 300 ∧ (es.getD j Ent.none_).v.size ≤ 1000) : FewE es (.returned (.bool false)) := by
  refine ⟨false, rfl, fun _ => ⟨by omega, fun e he => ?_⟩⟩
  obtain ⟨j, hj, rfl⟩ := List.mem_iff_getElem.1 he
  have := h2 j hj
  rw [show es.getD j Ent.none_ = es[j] by simp [List.getD, hj]] at this
  omega

set_option maxRecDepth 100000 in
set_option maxHeartbeats 2000000 in
theorem great12_any (v : Value) (es : List Ent) (w : World) (hv : RdE w v es) :
    Calls Try.prog 7 #[v] w fun e w' => FewE es e ∧ w = w' := by
  obtain ⟨a, c, rfl, h1, h2⟩ := hv.form
  have HV := Lib.hid hv
  clear hv
  unfold maxLen at h2
  go_enter Try.func7, Try.ntmps7
  go_wp2
  go_loop [3] (fun i => ∃ k : Nat, k ≤ es.length ∧ k ≤ 400 ∧ i = .int .i64 (k : Int) ∧ Hid (∀ j, j < k → (es.getD j Ent.none_).u.size ≤ 300 ∧ (es.getD j Ent.none_).v.size ≤ 1000)) (fun i => 400 - (intOf i).toNat)
  case atStart => exact ⟨0, Nat.zero_le _, by omega, rfl, Lib.hid (fun j h => by omega)⟩
  case round =>
    obtain ⟨k, hk, hk2, rfl, HK⟩ := hrel
    by_cases hlt : k < es.length
    · by_cases h400 : k < 400
      · obtain ⟨_, _, hva, hone⟩ := HV.out.one
        cases hva
        obtain ⟨b, off, rfl, hbw, c0, c1, c2, c3, hfit⟩ := hone k hlt
        have HMO := Lib.hid (show (es.getD k Ent.none_).u.size ≤ 300 ∧ (es.getD k Ent.none_).v.size ≤ 1000 → ∀ j, j < k + 1 → (es.getD j Ent.none_).u.size ≤ 300 ∧ (es.getD j Ent.none_).v.size ≤ 1000 from fun h j hj => by
          rcases Nat.lt_or_ge j k with h1 | h1
          · exact HK.out j h1
          · obtain rfl : j = k := by omega
            exact h)
        clear hone hfit c1 c2 hbw
        generalize es.getD k Ent.none_ = X at *
        obtain ⟨xu, xs, xk, xv⟩ := X
        simp only at c0 c3
        have hk3 : decide ((k : Int) < 400) = true := by simp; omega
        by_cases h3 : 300 < xu.size
        · have h3' : decide ((300 : Int) < (xu.size : Int)) = true := by simp; omega
          clear HMO
          go_wp2
          go_ret
          exact ⟨fewE_yes _, rfl⟩
        · have h3' : decide ((300 : Int) < (xu.size : Int)) = false := by simp; omega
          by_cases h4 : 1000 < xv.size
          · have h4' : decide ((1000 : Int) < (xv.size : Int)) = true := by simp; omega
            clear HMO
            go_wp2
            go_ret
            exact ⟨fewE_yes _, rfl⟩
          · have h4' : decide ((1000 : Int) < (xv.size : Int)) = false := by simp; omega
            have HN := Lib.hid (HMO.out ⟨by simp only; omega, by simp only; omega⟩)
            clear HMO
            go_wp2
            exact ⟨⟨k + 1, hlt, by omega, by go_num, HN⟩, by simp [intOf]; omega⟩
      · have hk3 : decide ((k : Int) < 400) = false := by simp; omega
        have hgt : decide ((300 : Int) < (es.length : Int)) = true := by simp; omega
        go_wp2
        go_ret
        exact ⟨fewE_yes _, rfl⟩
    · have hke : decide ((k : Int) < (es.length : Int)) = false := by simp; omega
      by_cases h80 : 300 < es.length
      · have hgt : decide ((300 : Int) < (es.length : Int)) = true := by simp; omega
        go_wp2
        go_ret
        exact ⟨fewE_yes _, rfl⟩
      · have hgt : decide ((300 : Int) < (es.length : Int)) = false := by simp; omega
        have HN := Lib.hid (fewE_no (es := es) (by omega) (fun j hj => HK.out j (by omega)))
        go_wp2
        go_ret
        exact ⟨HN.out, rfl⟩
end Go.Proofs.Ytdcjfgbngmdkfaa
