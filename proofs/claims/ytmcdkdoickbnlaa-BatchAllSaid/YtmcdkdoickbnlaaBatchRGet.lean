/-
  What the document's GetBatch does, for any bytes.
-/
import Derived.Test.YtmcdkdoickbnlaaBatchGet
import Derived.Test.YtmcdkdoickbnlaaRefText
namespace Go.Proofs.Ytmcdkdoickbnlaa
open Go.RowKit

theorem getBat_none {l : List UInt8} (h : batAt l = none) : getBat l = none := by unfold getBat; rw [h]
theorem getBat_no {l : List UInt8} {s e : Nat} {ops : List Ope} (h : batAt l = some (s, ops, e)) (h2 : ¬ (e = l.length ∧ mayBt (s : Int) ops = true)) : getBat l = none := by
  unfold getBat
  rw [h]
  simp only
  rw [if_neg fun hp => h2 ((getBat_iff h).1 hp)]
theorem getBat_yes {l : List UInt8} {s e : Nat} {ops : List Ope} (h : batAt l = some (s, ops, e)) (h2 : e = l.length) (h3 : mayBt (s : Int) ops = true) : getBat l = some (s, ops) := by
  unfold getBat
  rw [h]
  simp only
  rw [if_pos ((getBat_iff h).2 ⟨h2, h3⟩)]

theorem opAt_n1 {l : List UInt8} {p : Nat} (h : getAt l (p : Int) = none) : opAt l p = none := by unfold opAt; rw [h]
theorem opAt_n2 {l : List UInt8} {p k a : Nat} (h : getAt l (p : Int) = some (k, a)) (h2 : textAt l (a : Int) = none) : opAt l p = none := by unfold opAt; rw [h]; simp only; rw [h2]
theorem opAt_n3 {l : List UInt8} {p a b : Nat} {key : List UInt8} (h : getAt l (p : Int) = some (1, a)) (h2 : textAt l (a : Int) = some (key, b)) (h3 : textAt l (b : Int) = none) : opAt l p = none := by
  unfold opAt; rw [h]; simp only; rw [h2]; simp only [if_true]; rw [h3]
theorem opAt_s1 {l : List UInt8} {p a b c : Nat} {key val : List UInt8} (h : getAt l (p : Int) = some (1, a)) (h2 : textAt l (a : Int) = some (key, b)) (h3 : textAt l (b : Int) = some (val, c)) : opAt l p = some (⟨1, strB key, strB val⟩, c) := by
  unfold opAt; rw [h]; simp only; rw [h2]; simp only [if_true]; rw [h3]
theorem opAt_s2 {l : List UInt8} {p k a b : Nat} {key : List UInt8} (h : getAt l (p : Int) = some (k, a)) (h2 : textAt l (a : Int) = some (key, b)) (hk : k ≠ 1) : opAt l p = some (⟨(k : Int), strB key, ⟨#[]⟩⟩, b) := by
  unfold opAt; rw [h]; simp only; rw [h2]; simp only; rw [if_neg hk]

set_option maxRecDepth 100000 in
set_option maxHeartbeats 16000000 in
theorem rgetB_any (v : Value) (l : List UInt8) (w : World) (hv : RdB w v l) :
    Calls Try.prog 10 #[v] w fun e w' => AnsGet (getBat l) w.heap.size e w' ∧ Below w.heap.size w w' := by
  obtain ⟨a, cap, rfl, hc1, hc2⟩ := hv.form
  unfold maxLen at hc2
  have HV := Lib.hid (hv.below ((Below.refl w.heap.size w).alloc (Nat.le_refl _) (.cells #[.int .i64 0, .slice none 0 0] 24)) (Nat.le_refl _))
  have HV0 := Lib.hid hv
  clear hv
  cases hg : getAt l 0 with
  | none =>
    have HG := Lib.hid hg
    have HR := Lib.hid (getBat_none (batAt_n1 hg))
    clear hg
    rw [HR.out]
    go_enter Try.func10, Try.ntmps10
    go_wp2_with (go_at_call 25; refine (rget_any _ l _ _ HV.out).mono ?_; rintro e w1 ⟨rfl, rfl⟩; (first | rw [HG.out]); unfold ans3)
    refine bodyPost_ret (v := .tuple #[.agg #[.int .i64 0, .slice none 0 0], .bool false]) (by simp [results, Try.results10, go_sem]) rfl ?_
    exact ⟨rfl, (by repeat (first | exact (Below.refl _ _).alloc (Nat.le_refl _) _ | refine Below.setCell ?_ (Nat.le_refl _) _))⟩
  | some x =>
    obtain ⟨s, a1⟩ := x
    have HG := Lib.hid hg
    cases hg2 : getAt l (a1 : Int) with
    | none =>
      have HG2 := Lib.hid hg2
      have HR := Lib.hid (getBat_none (batAt_n2 hg hg2))
      clear hg hg2
      rw [HR.out]
      go_enter Try.func10, Try.ntmps10
      go_wp2_with (go_at_call 25; refine (rget_any _ l _ _ HV.out).mono ?_; rintro e w1 ⟨rfl, rfl⟩; (first | rw [HG.out] | rw [HG2.out]); unfold ans3)
      refine bodyPost_ret (v := .tuple #[.agg #[.int .i64 0, .slice none 0 0], .bool false]) (by simp [results, Try.results10, go_sem]) rfl ?_
      exact ⟨rfl, (by repeat (first | exact (Below.refl _ _).alloc (Nat.le_refl _) _ | refine Below.setCell ?_ (Nat.le_refl _) _))⟩
    | some y =>
      obtain ⟨n, b1⟩ := y
      have HG2 := Lib.hid hg2
      by_cases h32 : 32 < n
      · have HR := Lib.hid (getBat_none (batAt_n3 hg hg2 h32))
        have i32 : (32 : Int) < (n : Int) := by omega
        clear hg hg2
        rw [HR.out]
        go_enter Try.func10, Try.ntmps10
        go_wp2_with (go_at_call 25; refine (rget_any _ l _ _ HV.out).mono ?_; rintro e w1 ⟨rfl, rfl⟩; (first | rw [HG.out] | rw [HG2.out]); unfold ans3)
        refine bodyPost_ret (v := .tuple #[.agg #[.int .i64 0, .slice none 0 0], .bool false]) (by simp [results, Try.results10, go_sem]) rfl ?_
        exact ⟨rfl, (by repeat (first | exact (Below.refl _ _).alloc (Nat.le_refl _) _ | refine Below.setCell ?_ (Nat.le_refl _) _))⟩
      · have HR := Lib.hid (batAt_ops hg hg2 h32)
        have i32 : (n : Int) ≤ 32 := by omega
        have HST := Lib.hid (St.start w (s : Int))
        clear hg hg2
        go_enter Try.func10, Try.ntmps10
        go_wp2_with (go_at_call 25; refine (rget_any _ l _ _ HV.out).mono ?_; rintro e w1 ⟨rfl, rfl⟩; (first | rw [HG.out] | rw [HG2.out]); unfold ans3)
        go_loopw [8, 11] (fun pv kv wr => ∃ (k p : Nat) (u : Value) (ops : List Ope), k ≤ n ∧ pv = .int .i64 p ∧ kv = .int .i64 k ∧ ops.length = k ∧ St w (s : Int) wr u ops ∧ Hid (opsAt l n b1 = (opsAt l (n - k) p).map fun x => (ops ++ x.1, x.2))) (fun _ kv _ => n - (intOf kv).toNat)
        case atStart => exact ⟨0, b1, _, [], Nat.zero_le _, rfl, rfl, rfl, HST.out, Lib.hid (by simp)⟩
        case round =>
          obtain ⟨k, p, u, ops, hk, rfl, rfl, hlen, hst, HO⟩ := hrel
          obtain ⟨⟨z0, z1, z2, z3⟩, c0, c1, c2, c3⟩ := hst.cells
          obtain ⟨ua, uc, rfl, _, _⟩ := hst.own.form
          have HS := Lib.hid hst
          have HLEN := Lib.hid hlen
          have HVR := Lib.hid (HV0.out.below HS.out.bel (Nat.le_refl _))
          have hy0 : w.heap.size < wr.heap.size := Nat.lt_of_lt_of_le (by omega) hst.sz
          have hy1 : w.heap.size + 1 < wr.heap.size := Nat.lt_of_lt_of_le (by omega) hst.sz
          clear hst hlen
          by_cases hlt : k < n
          · have hnk : n - k = (n - (k + 1)) + 1 := by omega
            cases hgp : getAt l (p : Int) with
            | none =>
              have HGP := Lib.hid hgp
              have HN : Hid (getBat l = none) := Lib.hid (getBat_none (by rw [HR.out, HO.out, hnk, opsAt_none (opAt_n1 hgp)]; rfl))
              clear hgp hnk
              cases ht : textAt l 0 with
              | none =>
                have HT := Lib.hid ht
                clear ht
                go_wp2_with (first | (go_at_call 25; refine (rget_any _ l _ _ HVR.out).mono ?_; rintro e w1 ⟨rfl, rfl⟩; (first | rw [HGP.out]); unfold ans3) | (go_at_call 26; refine (rgetText_any _ l _ _ HVR.out).mono ?_; rintro e w1 ⟨rfl, rfl⟩; (first | rw [HT.out]); unfold ansT))
                refine bodyPost_ret (v := .tuple #[.agg #[.int .i64 0, .slice none 0 0], .bool false]) (by simp [results, Try.results10, go_sem, z0, z1]) rfl ?_
                exact ⟨by rw [HN.out]; rfl, (HS.out.bel.setCell (Nat.le_refl _) _).setCell (Nat.le_refl _) _⟩
              | some tx =>
                obtain ⟨ts, te⟩ := tx
                have HT := Lib.hid ht
                clear ht
                go_wp2_with (first | (go_at_call 25; refine (rget_any _ l _ _ HVR.out).mono ?_; rintro e w1 ⟨rfl, rfl⟩; (first | rw [HGP.out]); unfold ans3) | (go_at_call 26; refine (rgetText_any _ l _ _ HVR.out).mono ?_; rintro e w1 ⟨rfl, rfl⟩; (first | rw [HT.out]); unfold ansT))
                refine bodyPost_ret (v := .tuple #[.agg #[.int .i64 0, .slice none 0 0], .bool false]) (by simp [results, Try.results10, go_sem, z0, z1]) rfl ?_
                exact ⟨by rw [HN.out]; rfl, (HS.out.bel.setCell (Nat.le_refl _) _).setCell (Nat.le_refl _) _⟩
            | some gx =>
              obtain ⟨kd, ka⟩ := gx
              have HGP := Lib.hid hgp
              cases ht : textAt l (ka : Int) with
              | none =>
                have HT := Lib.hid ht
                have HN : Hid (getBat l = none) := Lib.hid (getBat_none (by rw [HR.out, HO.out, hnk, opsAt_none (opAt_n2 hgp ht)]; rfl))
                clear hgp ht hnk
                go_wp2_with (first | (go_at_call 25; refine (rget_any _ l _ _ HVR.out).mono ?_; rintro e w1 ⟨rfl, rfl⟩; (first | rw [HGP.out]); unfold ans3) | (go_at_call 26; refine (rgetText_any _ l _ _ HVR.out).mono ?_; rintro e w1 ⟨rfl, rfl⟩; (first | rw [HT.out]); unfold ansT))
                refine bodyPost_ret (v := .tuple #[.agg #[.int .i64 0, .slice none 0 0], .bool false]) (by simp [results, Try.results10, go_sem, z0, z1]) rfl ?_
                exact ⟨by rw [HN.out]; rfl, (HS.out.bel.setCell (Nat.le_refl _) _).setCell (Nat.le_refl _) _⟩
              | some tx =>
                obtain ⟨key, kb⟩ := tx
                have HT := Lib.hid ht
                by_cases hkd : kd = 1
                · subst hkd
                  have HVX := Lib.hid (HVR.out.below ((Below.refl wr.heap.size wr).alloc (Nat.le_refl _) (.cells #[.int .i64 1, .string (strB key), .string ⟨#[]⟩] 45)) (Nat.le_refl _))
                  cases ht2 : textAt l (kb : Int) with
                  | none =>
                    have HT2 := Lib.hid ht2
                    have HN : Hid (getBat l = none) := Lib.hid (getBat_none (by rw [HR.out, HO.out, hnk, opsAt_none (opAt_n3 hgp ht ht2)]; rfl))
                    clear hgp ht ht2 hnk
                    go_wp2_with (first | (go_at_call 25; refine (rget_any _ l _ _ HVR.out).mono ?_; rintro e w1 ⟨rfl, rfl⟩; (first | rw [HGP.out]); unfold ans3) | (go_at_call 26; refine (rgetText_any _ l _ _ HVR.out).mono ?_; rintro e w1 ⟨rfl, rfl⟩; (first | rw [HT.out]); unfold ansT) | (go_at_call 26; refine (rgetText_any _ l _ _ HVX.out).mono ?_; rintro e w1 ⟨rfl, rfl⟩; (first | rw [HT2.out]); unfold ansT))
                    refine bodyPost_ret (v := .tuple #[.agg #[.int .i64 0, .slice none 0 0], .bool false]) (by simp [results, Try.results10, go_sem, z0, z1, hy0]) rfl ?_
                    exact ⟨by rw [HN.out]; rfl, ((HS.out.bel.setCell (Nat.le_refl _) _).setCell (Nat.le_refl _) _).alloc (by simp; omega) _⟩
                  | some tx2 =>
                    obtain ⟨val, kc⟩ := tx2
                    have HT2 := Lib.hid ht2
                    have HN : Hid (opsAt l n b1 = (opsAt l (n - (k + 1)) kc).map fun x => ((ops ++ [(⟨1, strB key, strB val⟩ : Ope)]) ++ x.1, x.2)) := Lib.hid (by rw [HO.out, hnk, opsAt_step (opAt_s1 hgp ht ht2)]; cases opsAt l (n - (k + 1)) kc <;> simp)
                    clear hgp ht ht2 hnk
                    go_wp2_with (first | (go_at_call 25; refine (rget_any _ l _ _ HVR.out).mono ?_; rintro e w1 ⟨rfl, rfl⟩; (first | rw [HGP.out]); unfold ans3) | (go_at_call 26; refine (rgetText_any _ l _ _ HVR.out).mono ?_; rintro e w1 ⟨rfl, rfl⟩; (first | rw [HT.out]); unfold ansT) | (go_at_call 26; refine (rgetText_any _ l _ _ HVX.out).mono ?_; rintro e w1 ⟨rfl, rfl⟩; (first | rw [HT2.out]); unfold ansT) | (at_builtin; refine wpList_append_rd rfl (.tmp 94) (.tmp 96) 22 rfl (w.heap.size + 2) 45 3 40 (.agg #[.int .i64 0, .string ⟨#[]⟩, .string ⟨#[]⟩]) Try.underlying22 info_op rfl (by decide) _ _ _ 1 _ ([(⟨1, strB key, strB val⟩ : Ope)].flatMap Ope.cells) rfl rfl (World.ownsRow.alloc (OwnO.below HS.out.own ((Below.refl wr.heap.size wr).alloc (Nat.le_refl _) _) (Nat.le_refl _)) _) ?rdA (opFlat_one _) ?bbA ?l1A ?l2A ?kkA))
                    case rdA =>
                      have h := one_op (wr.alloc (.cells #[.int .i64 1, .string (strB key), .string (strB val)] 45)) ⟨1, strB key, strB val⟩
                      have hs : (wr.alloc (.cells #[.int .i64 1, .string (strB key), .string (strB val)] 45)).heap.size = wr.heap.size + 1 := by simp
                      rw [hs] at h
                      rw [opFlat_one_]
                      exact h
                    case bbA => (have := HS.out.sz; simp; omega)
                    case l1A => (have := HLEN.out; omega)
                    case l2A => (have := HLEN.out; unfold maxLen; omega)
                    case kkA =>
                      intro vA wA hown hBk
                      have hsz := HS.out.sz
                      have hb := hBk (w.heap.size + 2) wr (Nat.le_refl _) ((((Below.refl wr.heap.size wr).alloc (Nat.le_refl _) _).mono hsz).alloc (by simp; omega) _)
                      have ho : OwnO wA (w.heap.size + 2) 45 vA (ops ++ [⟨1, strB key, strB val⟩]) := by unfold OwnO; rw [List.length_append, opFlat_app]; exact hown
                      obtain ⟨va, vc, rfl, _, _⟩ := ho.form
                      have d1 := (hb.cell (p := ⟨w.heap.size + 1, 1, none⟩) (by show w.heap.size + 1 < w.heap.size + 2; omega)).trans c1
                      have d3 := (hb.frozen (p := ⟨w.heap.size + 1, 1, none⟩) (by show w.heap.size + 1 < w.heap.size + 2; omega)).trans c3
                      have hnew := HS.out.more hb ho
                      simp only [List.length_append, List.length_cons, List.length_nil, Nat.zero_add] at hnew
                      have HNEW := Lib.hid hnew
                      clear hsz hb ho hown hBk z0 z1 z2 z3 c0 c1 c2 c3 hnew
                      go_wp2
                      refine ⟨⟨k + 1, kc, _, ops ++ [⟨1, strB key, strB val⟩], by omega, rfl, by go_num, by rw [List.length_append, HLEN.out]; rfl, HNEW.out, HN⟩, ?_⟩
                      simp [intOf]; omega
                · have HN : Hid (opsAt l n b1 = (opsAt l (n - (k + 1)) kb).map fun x => ((ops ++ [(⟨(kd : Int), strB key, ⟨#[]⟩⟩ : Ope)]) ++ x.1, x.2)) := Lib.hid (by rw [HO.out, hnk, opsAt_step (opAt_s2 hgp ht hkd)]; cases opsAt l (n - (k + 1)) kb <;> simp)
                  have hkd1 : ((kd : Int) == 1) = false := by simp; omega
                  clear hgp ht hnk
                  go_wp2_with (first | (go_at_call 25; refine (rget_any _ l _ _ HVR.out).mono ?_; rintro e w1 ⟨rfl, rfl⟩; (first | rw [HGP.out]); unfold ans3) | (go_at_call 26; refine (rgetText_any _ l _ _ HVR.out).mono ?_; rintro e w1 ⟨rfl, rfl⟩; (first | rw [HT.out]); unfold ansT) | (at_builtin; refine wpList_append_rd rfl (.tmp 94) (.tmp 96) 22 rfl (w.heap.size + 2) 45 3 40 (.agg #[.int .i64 0, .string ⟨#[]⟩, .string ⟨#[]⟩]) Try.underlying22 info_op rfl (by decide) _ _ _ 1 _ ([(⟨(kd : Int), strB key, ⟨#[]⟩⟩ : Ope)].flatMap Ope.cells) rfl rfl (World.ownsRow.alloc (OwnO.below HS.out.own ((Below.refl wr.heap.size wr).alloc (Nat.le_refl _) _) (Nat.le_refl _)) _) ?rdA (opFlat_one _) ?bbA ?l1A ?l2A ?kkA))
                  case rdA =>
                    have h := one_op (wr.alloc (.cells #[.int .i64 (kd : Int), .string (strB key), .string ⟨#[]⟩] 45)) ⟨(kd : Int), strB key, ⟨#[]⟩⟩
                    have hs : (wr.alloc (.cells #[.int .i64 (kd : Int), .string (strB key), .string ⟨#[]⟩] 45)).heap.size = wr.heap.size + 1 := by simp
                    rw [hs] at h
                    rw [opFlat_one_]
                    exact h
                  case bbA => (have := HS.out.sz; simp; omega)
                  case l1A => (have := HLEN.out; omega)
                  case l2A => (have := HLEN.out; unfold maxLen; omega)
                  case kkA =>
                    intro vA wA hown hBk
                    have hsz := HS.out.sz
                    have hb := hBk (w.heap.size + 2) wr (Nat.le_refl _) ((((Below.refl wr.heap.size wr).alloc (Nat.le_refl _) _).mono hsz).alloc (by simp; omega) _)
                    have ho : OwnO wA (w.heap.size + 2) 45 vA (ops ++ [⟨(kd : Int), strB key, ⟨#[]⟩⟩]) := by unfold OwnO; rw [List.length_append, opFlat_app]; exact hown
                    obtain ⟨va, vc, rfl, _, _⟩ := ho.form
                    have d1 := (hb.cell (p := ⟨w.heap.size + 1, 1, none⟩) (by show w.heap.size + 1 < w.heap.size + 2; omega)).trans c1
                    have d3 := (hb.frozen (p := ⟨w.heap.size + 1, 1, none⟩) (by show w.heap.size + 1 < w.heap.size + 2; omega)).trans c3
                    have hnew := HS.out.more hb ho
                    simp only [List.length_append, List.length_cons, List.length_nil, Nat.zero_add] at hnew
                    have HNEW := Lib.hid hnew
                    clear hsz hb ho hown hBk z0 z1 z2 z3 c0 c1 c2 c3 hnew
                    go_wp2
                    refine ⟨⟨k + 1, kb, _, ops ++ [⟨(kd : Int), strB key, ⟨#[]⟩⟩], by omega, rfl, by go_num, by rw [List.length_append, HLEN.out]; rfl, HNEW.out, HN⟩, ?_⟩
                    simp [intOf]; omega
          · obtain rfl : k = n := by omega
            have HBAT : Hid (batAt l = some (s, ops, p)) := Lib.hid (by rw [HR.out, HO.out, Nat.sub_self]; simp [opsAt])
            have hmb := rmayB_any (s : Int) (.slice ua ops.length uc) ops wr (HS.out.own.read (batAt_fits (by unfold maxLen; omega) HBAT.out)) (by have := HLEN.out; omega)
            by_cases hp : p = l.length
            · have hq : ((p : Int) != (l.length : Int)) = false := by simp [hp]
              cases hm : mayBt (s : Int) ops with
              | true =>
                rw [hm] at hmb
                have HMB := Lib.hid hmb
                have HN := Lib.hid (getBat_yes HBAT.out hp hm)
                clear hmb hm hp
                go_wp2_with (go_at_call 27; refine HMB.out.mono ?_; rintro e w8 ⟨rfl, hb8⟩; have hs8 := HS.out.call hb8; obtain ⟨⟨z0, z1, z2, z3⟩, c0, c1, c2, c3⟩ := hs8.cells; have HS8 := Lib.hid hs8; clear hb8 hs8)
                refine bodyPost_ret (v := .tuple #[.agg #[.int .i64 (s : Int), .slice ua ops.length uc], .bool true]) (by simp [results, Try.results10, go_sem, z0, z1]) rfl ?_
                refine ⟨?_, (HS8.out.bel.setCell (Nat.le_refl _) _).setCell (Nat.le_refl _) _⟩
                rw [HN.out]
                refine ⟨_, rfl, ?_⟩
                have ho := HS8.out.own
                exact own_mono (own_kept ho (R := fun q => w.heap.size + 2 ≤ q) (((Kept.refl _ _).setCell (by simp) _).setCell (by simp) _) fun q hq => (World.ownsRow.lt ho q hq).1) (by omega)
              | false =>
                rw [hm] at hmb
                have HMB := Lib.hid hmb
                have HN := Lib.hid (getBat_no HBAT.out (fun h => by rw [hm] at h; exact absurd h.2 (by simp)))
                clear hmb hm hp
                go_wp2_with (go_at_call 27; refine HMB.out.mono ?_; rintro e w8 ⟨rfl, hb8⟩; have hs8 := HS.out.call hb8; obtain ⟨⟨z0, z1, z2, z3⟩, c0, c1, c2, c3⟩ := hs8.cells; have HS8 := Lib.hid hs8; clear hb8 hs8)
                refine bodyPost_ret (v := .tuple #[.agg #[.int .i64 0, .slice none 0 0], .bool false]) (by simp [results, Try.results10, go_sem, z0, z1]) rfl ?_
                exact ⟨by rw [HN.out]; rfl, (HS8.out.bel.setCell (Nat.le_refl _) _).setCell (Nat.le_refl _) _⟩
            · have hq : ((p : Int) != (l.length : Int)) = true := by simp; omega
              have HN := Lib.hid (getBat_no HBAT.out (fun h => hp h.1))
              clear hmb hp
              go_wp2
              refine bodyPost_ret (v := .tuple #[.agg #[.int .i64 0, .slice none 0 0], .bool false]) (by simp [results, Try.results10, go_sem, z0, z1]) rfl ?_
              exact ⟨by rw [HN.out]; rfl, (HS.out.bel.setCell (Nat.le_refl _) _).setCell (Nat.le_refl _) _⟩
end Go.Proofs.Ytmcdkdoickbnlaa
