/-
  Blocks: the entries of a block, as the document tells them.
-/
import Derived.Test.YtdcjfgbngmdkfaaBlkRPut
import Derived.Test.YtdcjfgbngmdkfaaBlkEntBy
import Derived.Test.YtdcjfgbngmdkfaaRefText
import Derived.Test.YtdcjfgbngmdkfaaFixedOut
namespace Go.Proofs.Ytdcjfgbngmdkfaa
open Go.RowKit

/-- What a call tells that tells the entries of a block. -/
def RetGet (w : World) (b : List UInt8) (e : Ending) (w' : World) : Prop :=
  ∃ x, e = .returned (.tuple #[x, .bool (getB b).isSome]) ∧ OwnE w' w.heap.size x ((getB b).getD []) ∧ Below w.heap.size w w'

theorem OwnE.nil (w : World) (B : Nat) : OwnE w B (.slice none 0 0) [] := World.ownsRow_nil _ _ _ _
theorem RetGet.no {w w' : World} {b : List UInt8} (h : getB b = none) (hb : Below w.heap.size w w') : RetGet w b (.returned (.tuple #[.slice none 0 0, .bool false])) w' :=
  ⟨_, by rw [h]; rfl, by rw [h]; exact OwnE.nil _ _, hb⟩
theorem RetGet.yes {w w' : World} {b : List UInt8} {es : List Ent} {x : Value} (h : IsBlk b es) (ho : OwnE w' w.heap.size x es) (hb : Below w.heap.size w w') : RetGet w b (.returned (.tuple #[x, .bool true])) w' :=
  ⟨_, by rw [getB_some h]; rfl, by rw [getB_some h]; exact ho, hb⟩

set_option maxRecDepth 100000 in
set_option maxHeartbeats 1000000 in
theorem rgetblk_any (v : Value) (b : List UInt8) (w : World) (hv : RdB w v b) (hl : b.length ≤ 1000000) : Calls Try.prog 12 #[v] w (RetGet w b) := by
  have HV := Lib.hid hv
  obtain ⟨va, vc, rfl, hc1, hc2⟩ := hv.form
  unfold maxLen at hc2
  clear hv
  have l1 : IntKind.i64.wrap ((b.length : Int) - 2) = (b.length : Int) - 2 := IntWalk.i64_in _ (by omega)
  by_cases g1 : b.length < 2
  · have HNO := Lib.hid (show getB b = none from getB_none fun es h => by have := h.count; omega)
    have HF := Lib.hid (rgetFixed_out (.slice va b.length vc) b ((b.length : Int) - 2) 2 (by omega) (by omega) w HV.out)
    go_enter Try.func12, Try.ntmps12
    go_wp2_with (go_at_call 32; (refine HF.out.mono ?_); rintro e w1 ⟨rfl, rfl⟩)
    go_ret2
    exact RetGet.no HNO.out (Below.refl _ _)
  · obtain ⟨m, hm⟩ : ∃ m, b.length = m + 2 := ⟨b.length - 2, by omega⟩
    have hgf := rgetFixed_yes (.slice va b.length vc) b m 2 (by omega) (by omega) w HV.out
    have htk : (b.drop m).take 2 = b.drop (b.length - 2) := by rw [List.take_of_length_le (by rw [List.length_drop]; omega), hm, Nat.add_sub_cancel]
    rw [htk] at hgf
    have HCO := Lib.hid (fun es (h : IsBlk b es) => h.count)
    have HBO := Lib.hid (fun es (h : IsBlk b es) => h.body)
    have hvl : valL (b.drop (b.length - 2)) < 65536 := by
      have := valL_lt (b.drop (b.length - 2))
      rw [List.length_drop, show b.length - (b.length - 2) = 2 by omega] at this
      exact this
    generalize valL (b.drop (b.length - 2)) = n at *
    have HF := Lib.hid (show Calls Try.prog 32 #[.slice va b.length vc, .int .i64 ((b.length : Int) - 2), .int .i64 2] w fun e w' => e = .returned (.tuple #[.int .i64 (n : Int), .bool true]) ∧ w = w' by rw [show (b.length : Int) - 2 = (m : Int) by omega]; exact hgf)
    clear hgf htk
    clear hm
    have g1' : 2 ≤ b.length := by omega
    clear m
    by_cases g2 : n < 1 ∨ b.length < n ∨ b.length < 4 * n + 2
    · have HNO := Lib.hid (show getB b = none from getB_none fun es h => by have := HCO.out es h; omega)
      have f4 : IntKind.i64.wrap (4 * (n : Int)) = 4 * (n : Int) := IntWalk.i64_in _ (by omega)
      have f5 : IntKind.i64.wrap (4 * (n : Int) + 2) = 4 * (n : Int) + 2 := IntWalk.i64_in _ (by omega)
      rcases g2 with g2 | g2
      · have f1 : decide ((n : Int) < 1) = true := by simp; omega
        clear HCO HBO
        go_enter Try.func12, Try.ntmps12
        go_wp2_with (go_at_call 32; (refine HF.out.mono ?_); rintro e w1 ⟨rfl, rfl⟩)
        go_ret2
        exact RetGet.no HNO.out (Below.refl _ _)
      · by_cases g3 : n < 1
        · omega
        · have f1 : decide ((n : Int) < 1) = false := by simp; omega
          by_cases g4 : b.length < n
          · have f2 : decide ((b.length : Int) < (n : Int)) = true := by simp; omega
            clear HCO HBO
            go_enter Try.func12, Try.ntmps12
            go_wp2_with (go_at_call 32; (refine HF.out.mono ?_); rintro e w1 ⟨rfl, rfl⟩)
            go_ret2
            exact RetGet.no HNO.out (Below.refl _ _)
          · have f2 : decide ((b.length : Int) < (n : Int)) = false := by simp; omega
            have f3 : decide ((b.length : Int) < 4 * (n : Int) + 2) = true := by simp; omega
            clear HCO HBO
            go_enter Try.func12, Try.ntmps12
            go_wp2_with (go_at_call 32; (refine HF.out.mono ?_); rintro e w1 ⟨rfl, rfl⟩)
            go_ret2
            exact RetGet.no HNO.out (Below.refl _ _)
    · have f1 : decide ((n : Int) < 1) = false := by simp; omega
      have f2 : decide ((b.length : Int) < (n : Int)) = false := by simp; omega
      have f3 : decide ((b.length : Int) < 4 * (n : Int) + 2) = false := by simp; omega
      have f4 : IntKind.i64.wrap (4 * (n : Int)) = 4 * (n : Int) := IntWalk.i64_in _ (by omega)
      have f5 : IntKind.i64.wrap (4 * (n : Int) + 2) = 4 * (n : Int) + 2 := IntWalk.i64_in _ (by omega)
      have f2n : decide (b.length < n) = false := by simp; omega
      have f1n : decide (n < 1) = false := by simp; omega
      have f3n : decide (b.length < 4 * n + 2) = false := by simp; omega
      obtain ⟨E, hE⟩ : ∃ E, b.length - 2 - 4 * n = E := ⟨_, rfl⟩
      have f6 : IntKind.i64.wrap ((b.length : Int) - 2 - 4 * (n : Int)) = (E : Int) := by rw [IntWalk.i64_in _ (by omega)]; omega
      rw [hE] at HBO
      have hEb : E ≤ b.length := by omega
      have hcl : (b.take E).length = E := by rw [List.length_take]; omega
      have HCL := Lib.hid hcl
      obtain ⟨bb, off, cap', hvv, _, _, _, _⟩ := HV.out.cells (by intro h; subst h; simp at g1')
      cases hvv
      have HSUB0 : Hid (∀ wz, Below w.heap.size w wz → RdB wz (.slice (some ⟨bb, off, none⟩) E vc) (b.take E)) := Lib.hid fun wz hz => by
        have h := sub_rd (HV.out.below hz (Nat.le_refl _)) 0 E (by omega) (by omega)
        rw [List.drop_zero] at h
        unfold RdB
        rw [hcl]
        simpa [Addr.add] using h
      generalize b.take E = c at *
      clear HCO hE hcl
      go_enter Try.func12, Try.ntmps12
      go_wp2_with (go_at_call 32; (refine HF.out.mono ?_); rintro e w1 ⟨rfl, rfl⟩)
      go_loopw [7, 8, 9] (fun l at_ last wr => ∃ (acc : List Ent) (p : Nat) (L : ByteArray), acc.length ≤ 65 ∧ p ≤ 1000000 ∧ at_ = .int .i64 (p : Int) ∧ last = .string L ∧ L.size ≤ 1000000 * acc.length ∧ Hid (OwnE wr w.heap.size l acc) ∧ Hid (Par c acc p) ∧ Hid (L = strB (prevU acc acc.length)) ∧ Hid (∀ e ∈ acc, e.fits) ∧ Hid (Below w.heap.size w wr)) (fun _ at_ _ _ => 1000000 - (intOf at_).toNat)
      case atStart => exact ⟨[], 0, ⟨#[]⟩, by simp, by omega, rfl, rfl, by simp [ByteArray.size], Lib.hid (OwnE.nil _ _), Lib.hid (Par.start c), Lib.hid rfl, Lib.hid (fun e h => by cases h), Lib.hid (Below.refl _ _)⟩
      case round =>
        obtain ⟨acc, p, L, hacc, hp1, rfl, rfl, hL, HO, HP, HLS, HFI, HB⟩ := hrel
        obtain ⟨la, lc, hla, hlc1, hlc2⟩ := HO.out.form
        subst hla
        unfold maxLen at hlc2
        have HNO := Lib.hid (show (p < E → stepP c (prevU acc acc.length) p = none → getB b = none) from fun h1 h2 => getB_none fun es he => HP.out.none_ (by rw [HCL.out]; exact h1) h2 es (HBO.out es he))
        have HSUB := Lib.hid (HSUB0.out wr HB.out)
        by_cases hpE : p < E
        · have k1 : decide ((p : Int) < (E : Int)) = true := by simp; omega
          by_cases h64 : acc.length ≤ 64
          · have k2 : decide ((acc.length : Int) ≤ 64) = true := by simp; omega
            have HPE := Lib.hid hpE
            have H64 := Lib.hid h64
            obtain ⟨s, a, p1, e1, t1, n1, bs, ba⟩ := ans3_form c (p : Int)
            obtain ⟨rs, d, p2, e2, t2, n2, brs, bd⟩ := ansT_form c (a : Int)
            obtain ⟨x, f, p3, e3, t3, n3, bx, bf⟩ := ans3_form c (d : Int)
            obtain ⟨vs, g, p4, e4, t4, n4, bvs, bg⟩ := ansT_form c (f : Int)
            rw [HCL.out] at ba brs bd bf bvs bg
            have HG1 : Hid (∀ wz, RdB wz (.slice (some ⟨bb, off, none⟩) E vc) c → Calls Try.prog 33 #[.slice (some ⟨bb, off, none⟩) E vc, .int .i64 (p : Int)] wz fun e w' => e = .returned (.tuple #[.int .i64 (s : Int), .int .i64 (a : Int), .bool p1]) ∧ wz = w') := Lib.hid fun wz h => by rw [← e1]; exact rget_any _ c p wz h
            have HG2 : Hid (∀ wz, RdB wz (.slice (some ⟨bb, off, none⟩) E vc) c → Calls Try.prog 34 #[.slice (some ⟨bb, off, none⟩) E vc, .int .i64 (a : Int)] wz fun e w' => e = .returned (.tuple #[.string (strB rs), .int .i64 (d : Int), .bool p2]) ∧ wz = w') := Lib.hid fun wz h => by rw [← e2]; exact rgetText_any _ c a wz h
            have HG3 : Hid (∀ wz, RdB wz (.slice (some ⟨bb, off, none⟩) E vc) c → Calls Try.prog 33 #[.slice (some ⟨bb, off, none⟩) E vc, .int .i64 (d : Int)] wz fun e w' => e = .returned (.tuple #[.int .i64 (x : Int), .int .i64 (f : Int), .bool p3]) ∧ wz = w') := Lib.hid fun wz h => by rw [← e3]; exact rget_any _ c d wz h
            have HG4 : Hid (∀ wz, RdB wz (.slice (some ⟨bb, off, none⟩) E vc) c → Calls Try.prog 34 #[.slice (some ⟨bb, off, none⟩) E vc, .int .i64 (f : Int)] wz fun e w' => e = .returned (.tuple #[.string (strB vs), .int .i64 (g : Int), .bool p4]) ∧ wz = w') := Lib.hid fun wz h => by rw [← e4]; exact rgetText_any _ c f wz h
            have T1 := Lib.hid t1
            have T2 := Lib.hid t2
            have T3 := Lib.hid t3
            have T4 := Lib.hid t4
            have N1 := Lib.hid n1
            have N2 := Lib.hid n2
            have N3 := Lib.hid n3
            have N4 := Lib.hid n4
            clear e1 e2 e3 e4 t1 t2 t3 t4 n1 n2 n3 n4 hpE h64
            cases p1 with
            | false =>
              have HR := Lib.hid (HNO.out HPE.out (step_no1 (N1.out rfl)))
              go_wp2_with (first | (go_at_call 33; first | ((with_reducible refine (HG1.out _ HSUB.out).mono ?_); rintro e w9 ⟨rfl, rfl⟩) | ((with_reducible refine (HG3.out _ HSUB.out).mono ?_); rintro e w9 ⟨rfl, rfl⟩)) | (go_at_call 34; first | ((with_reducible refine (HG2.out _ HSUB.out).mono ?_); rintro e w9 ⟨rfl, rfl⟩) | ((with_reducible refine (HG4.out _ HSUB.out).mono ?_); rintro e w9 ⟨rfl, rfl⟩)))
              go_ret2
              exact RetGet.no HR.out HB.out
            | true =>
              obtain ⟨n1, lt1⟩ := T1.out rfl
              have M1 := Lib.hid n1
              clear n1 T1 N1
              cases p2 with
              | false =>
                have HR := Lib.hid (HNO.out HPE.out (step_no2 M1.out (N2.out rfl)))
                go_wp2_with (first | (go_at_call 33; first | ((with_reducible refine (HG1.out _ HSUB.out).mono ?_); rintro e w9 ⟨rfl, rfl⟩) | ((with_reducible refine (HG3.out _ HSUB.out).mono ?_); rintro e w9 ⟨rfl, rfl⟩)) | (go_at_call 34; first | ((with_reducible refine (HG2.out _ HSUB.out).mono ?_); rintro e w9 ⟨rfl, rfl⟩) | ((with_reducible refine (HG4.out _ HSUB.out).mono ?_); rintro e w9 ⟨rfl, rfl⟩)))
                go_ret2
                exact RetGet.no HR.out HB.out
              | true =>
                obtain ⟨n2, lt2⟩ := T2.out rfl
                have M2 := Lib.hid n2
                clear n2 T2 N2
                cases p3 with
                | false =>
                  have HR := Lib.hid (HNO.out HPE.out (step_no3 M1.out M2.out (N3.out rfl)))
                  go_wp2_with (first | (go_at_call 33; first | ((with_reducible refine (HG1.out _ HSUB.out).mono ?_); rintro e w9 ⟨rfl, rfl⟩) | ((with_reducible refine (HG3.out _ HSUB.out).mono ?_); rintro e w9 ⟨rfl, rfl⟩)) | (go_at_call 34; first | ((with_reducible refine (HG2.out _ HSUB.out).mono ?_); rintro e w9 ⟨rfl, rfl⟩) | ((with_reducible refine (HG4.out _ HSUB.out).mono ?_); rintro e w9 ⟨rfl, rfl⟩)))
                  go_ret2
                  exact RetGet.no HR.out HB.out
                | true =>
                  obtain ⟨n3, lt3⟩ := T3.out rfl
                  have M3 := Lib.hid n3
                  clear n3 T3 N3
                  cases p4 with
                  | false =>
                    have HR := Lib.hid (HNO.out HPE.out (step_no4 M1.out M2.out M3.out (N4.out rfl)))
                    go_wp2_with (first | (go_at_call 33; first | ((with_reducible refine (HG1.out _ HSUB.out).mono ?_); rintro e w9 ⟨rfl, rfl⟩) | ((with_reducible refine (HG3.out _ HSUB.out).mono ?_); rintro e w9 ⟨rfl, rfl⟩)) | (go_at_call 34; first | ((with_reducible refine (HG2.out _ HSUB.out).mono ?_); rintro e w9 ⟨rfl, rfl⟩) | ((with_reducible refine (HG4.out _ HSUB.out).mono ?_); rintro e w9 ⟨rfl, rfl⟩)))
                    go_ret2
                    exact RetGet.no HR.out HB.out
                  | true =>
                    obtain ⟨n4, lt4⟩ := T4.out rfl
                    have M4 := Lib.hid n4
                    clear n4 T4 N4
                    have HLL := Lib.hid (show L.size = (prevU acc acc.length).length by rw [HLS.out, strB_size])
                    have HST := Lib.hid (step_by (last := prevU acc acc.length) M1.out M2.out M3.out M4.out)
                    by_cases hs : L.size < s
                    · have k3 : decide ((L.size : Int) < (s : Int)) = true := by simp; omega
                      have HR := Lib.hid (HNO.out HPE.out (by rw [HST.out, if_pos (by rw [← HLL.out]; exact hs)]))
                      go_wp2_with (first | (go_at_call 33; first | ((with_reducible refine (HG1.out _ HSUB.out).mono ?_); rintro e w9 ⟨rfl, rfl⟩) | ((with_reducible refine (HG3.out _ HSUB.out).mono ?_); rintro e w9 ⟨rfl, rfl⟩)) | (go_at_call 34; first | ((with_reducible refine (HG2.out _ HSUB.out).mono ?_); rintro e w9 ⟨rfl, rfl⟩) | ((with_reducible refine (HG4.out _ HSUB.out).mono ?_); rintro e w9 ⟨rfl, rfl⟩)))
                      go_ret2
                      exact RetGet.no HR.out HB.out
                    · have k3 : decide ((L.size : Int) < (s : Int)) = false := by simp; omega
                      have HP2 := Lib.hid (HP.out.more (by rw [HCL.out]; exact HPE.out) (by rw [HST.out, if_neg (by rw [← HLL.out]; exact hs)]))
                      have HXE := Lib.hid (show ent_by L s x rs vs = ⟨strB ((prevU acc acc.length).take s ++ rs), ((x / 2 : Nat) : Int), ((1 + x % 2 : Nat) : Int), strB vs⟩ from ent_same HLS.out)
                      rw [← HXE.out] at HP2
                      have HFX := Lib.hid (ent_fits (L := L) (s := s) (x := x) (rs := rs) (vs := vs) (by omega) bx (by omega) (by omega))
                      have HLX := Lib.hid (ent_len (L := L) (s := s) (rs := rs))
                      go_wp2_with (first | (go_at_call 33; first | ((with_reducible refine (HG1.out _ HSUB.out).mono ?_); rintro e w9 ⟨rfl, rfl⟩) | ((with_reducible refine (HG3.out _ HSUB.out).mono ?_); rintro e w9 ⟨rfl, rfl⟩)) | (go_at_call 34; first | ((with_reducible refine (HG2.out _ HSUB.out).mono ?_); rintro e w9 ⟨rfl, rfl⟩) | ((with_reducible refine (HG4.out _ HSUB.out).mono ?_); rintro e w9 ⟨rfl, rfl⟩)) | (at_builtin; refine wpList_append_rd rfl (.tmp 127) (.tmp 137) 22 rfl w.heap.size 36 4 48 (.agg #[.string ⟨#[]⟩, .int .i64 0, .int .i64 0, .string ⟨#[]⟩]) Try.underlying22 info_ent rfl (by decide) (.slice la acc.length lc) (.slice (some ⟨wr.heap.size, 0, none⟩) 1 1) acc.length 1 (acc.flatMap Ent.cells) ([ent_by L s x rs vs].flatMap Ent.cells) rfl rfl (World.ownsRow.alloc HO.out _) (one_entry wr (ent_by L s x rs vs)) (entFlat_one _) ?bA ?l1 ?l2 ?kk))
                      case bA => exact Nat.le_trans HB.out.size (by simp)
                      case l1 => omega
                      case l2 => unfold maxLen; omega
                      case kk =>
                        intro v' w' hown' hb'
                        go_wp2
                        refine ⟨⟨acc ++ [ent_by L s x rs vs], g, _, by have := H64.out; simp; omega, by omega, rfl, rfl, ?_, Lib.hid ?_, HP2, Lib.hid ?_, Lib.hid ?_, Lib.hid (hb' _ _ (Nat.le_refl _) (HB.out.alloc HB.out.size _))⟩, by simp [intOf]; omega⟩
                        · have := HLX.out
                          simp only [List.length_append, List.length_cons, List.length_nil]
                          omega
                        · unfold OwnE
                          simpa using hown'
                        · rw [show (acc ++ [ent_by L s x rs vs]).length = acc.length + 1 by simp, prevU_snoc]
                          exact (strB_data _).symm
                        · intro e he
                          rcases List.mem_append.1 he with he | he
                          · exact HFI.out e he
                          · rw [List.mem_singleton.1 he]
                            exact HFX.out
          · have k2 : decide ((acc.length : Int) ≤ 64) = false := by simp; omega
            have HQ := Lib.hid (show ∀ es, IsBlk b es → es = acc from fun es he => by
              have h1 := (HP.out es (HBO.out es he)).1
              have h2 := (putErr_ok he.1).2.2
              omega)
            have HRD := Lib.hid (HO.out.read HFI.out)
            have HPB : Hid (Calls Try.prog 10 #[.slice la acc.length lc] wr (RetPut wr acc)) := Lib.hid (rputblk_any _ acc wr HRD.out)
            by_cases he0 : putErr acc = 0
            · have HPB0 : Hid (Calls Try.prog 10 #[.slice la acc.length lc] wr fun e w' => ∃ x, e = .returned (.tuple #[x, .int .i64 0]) ∧ OwnB w' wr.heap.size 5 x (blockL acc) ∧ Below wr.heap.size wr w') := Lib.hid (by have h := HPB.out; unfold RetPut at h; rw [he0, if_pos rfl] at h; exact h)
              by_cases hbq : blockL acc = b
              · have HIS := Lib.hid (show IsBlk b acc from ⟨he0, hbq⟩)
                rw [hbq] at HPB0
                clear hbq he0
                go_wp2_with (go_at_call 10; (refine HPB0.out.mono ?_); rintro e w9 ⟨x9, rfl, ho9, hb9⟩; have q1 := rdB_convert (P := Try.prog) ho9.read 23 5 9 Try.underlying23 Try.underlying5 Try.underlying9; have q2 := rdB_convert (P := Try.prog) (HV.out.below (HB.out.trans (hb9.mono HB.out.size)) (Nat.le_refl _)) 23 5 9 Try.underlying23 Try.underlying5 Try.underlying9)
                go_ret2
                exact RetGet.yes HIS.out (HO.out.below hb9) (HB.out.trans (hb9.mono HB.out.size))
              · have HR := Lib.hid (show getB b = none from getB_none fun es he => hbq (by rw [← HQ.out es he]; exact he.2))
                have hne1 : (blockL acc == b) = false := by
                  rw [beq_eq_false_iff_ne]
                  exact hbq
                clear hbq he0
                go_wp2_with (go_at_call 10; (refine HPB0.out.mono ?_); rintro e w9 ⟨x9, rfl, ho9, hb9⟩; have q1 := rdB_convert (P := Try.prog) ho9.read 23 5 9 Try.underlying23 Try.underlying5 Try.underlying9; have q2 := rdB_convert (P := Try.prog) (HV.out.below (HB.out.trans (hb9.mono HB.out.size)) (Nat.le_refl _)) 23 5 9 Try.underlying23 Try.underlying5 Try.underlying9)
                go_ret2
                exact RetGet.no HR.out (HB.out.trans (hb9.mono HB.out.size))
            · have HR := Lib.hid (show getB b = none from getB_none fun es he => he0 (by rw [← HQ.out es he]; exact he.1))
              obtain ⟨er, her⟩ : ∃ er, putErr acc = er := ⟨_, rfl⟩
              have HPB1 : Hid (Calls Try.prog 10 #[.slice la acc.length lc] wr fun e w' => ∃ x, e = .returned (.tuple #[x, .int .i64 er]) ∧ Below wr.heap.size wr w') := Lib.hid (by
                refine HPB.out.mono ?_
                rintro e w' ⟨x, rfl, _, h⟩
                exact ⟨x, by rw [her], h⟩)
              rw [her] at he0
              have her1 : (er == 0) = false := by simpa using he0
              have her2 : (er != 0) = true := by simpa using he0
              clear her
              go_wp2_with (go_at_call 10; (refine HPB1.out.mono ?_); rintro e w9 ⟨x9, rfl, hb9⟩)
              go_ret2
              exact RetGet.no HR.out (HB.out.trans (hb9.mono HB.out.size))
        · have k1 : decide ((p : Int) < (E : Int)) = false := by simp; omega
          have HQ := Lib.hid (show ∀ es, IsBlk b es → es = acc from fun es he => HP.out.end_ (by rw [HCL.out]; exact hpE) (HBO.out es he))
          have HRD := Lib.hid (HO.out.read HFI.out)
          have HPB : Hid (Calls Try.prog 10 #[.slice la acc.length lc] wr (RetPut wr acc)) := Lib.hid (rputblk_any _ acc wr HRD.out)
          by_cases he0 : putErr acc = 0
          · have HPB0 : Hid (Calls Try.prog 10 #[.slice la acc.length lc] wr fun e w' => ∃ x, e = .returned (.tuple #[x, .int .i64 0]) ∧ OwnB w' wr.heap.size 5 x (blockL acc) ∧ Below wr.heap.size wr w') := Lib.hid (by have h := HPB.out; unfold RetPut at h; rw [he0, if_pos rfl] at h; exact h)
            by_cases hbq : blockL acc = b
            · have HIS := Lib.hid (show IsBlk b acc from ⟨he0, hbq⟩)
              rw [hbq] at HPB0
              clear hbq he0
              go_wp2_with (go_at_call 10; (refine HPB0.out.mono ?_); rintro e w9 ⟨x9, rfl, ho9, hb9⟩; have q1 := rdB_convert (P := Try.prog) ho9.read 23 5 9 Try.underlying23 Try.underlying5 Try.underlying9; have q2 := rdB_convert (P := Try.prog) (HV.out.below (HB.out.trans (hb9.mono HB.out.size)) (Nat.le_refl _)) 23 5 9 Try.underlying23 Try.underlying5 Try.underlying9)
              go_ret2
              exact RetGet.yes HIS.out (HO.out.below hb9) (HB.out.trans (hb9.mono HB.out.size))
            · have HR := Lib.hid (show getB b = none from getB_none fun es he => hbq (by rw [← HQ.out es he]; exact he.2))
              have hne1 : (blockL acc == b) = false := by
                rw [beq_eq_false_iff_ne]
                exact hbq
              clear hbq he0
              go_wp2_with (go_at_call 10; (refine HPB0.out.mono ?_); rintro e w9 ⟨x9, rfl, ho9, hb9⟩; have q1 := rdB_convert (P := Try.prog) ho9.read 23 5 9 Try.underlying23 Try.underlying5 Try.underlying9; have q2 := rdB_convert (P := Try.prog) (HV.out.below (HB.out.trans (hb9.mono HB.out.size)) (Nat.le_refl _)) 23 5 9 Try.underlying23 Try.underlying5 Try.underlying9)
              go_ret2
              exact RetGet.no HR.out (HB.out.trans (hb9.mono HB.out.size))
          · have HR := Lib.hid (show getB b = none from getB_none fun es he => he0 (by rw [← HQ.out es he]; exact he.1))
            obtain ⟨er, her⟩ : ∃ er, putErr acc = er := ⟨_, rfl⟩
            have HPB1 : Hid (Calls Try.prog 10 #[.slice la acc.length lc] wr fun e w' => ∃ x, e = .returned (.tuple #[x, .int .i64 er]) ∧ Below wr.heap.size wr w') := Lib.hid (by
              refine HPB.out.mono ?_
              rintro e w' ⟨x, rfl, _, h⟩
              exact ⟨x, by rw [her], h⟩)
            rw [her] at he0
            have her1 : (er == 0) = false := by simpa using he0
            have her2 : (er != 0) = true := by simpa using he0
            clear her
            go_wp2_with (go_at_call 10; (refine HPB1.out.mono ?_); rintro e w9 ⟨x9, rfl, hb9⟩)
            go_ret2
            exact RetGet.no HR.out (HB.out.trans (hb9.mono HB.out.size))
end Go.Proofs.Ytdcjfgbngmdkfaa
