import Derived.Test.YtpbmacbogmnokaaRepGet
import Derived.Test.YtpbmacbogmnokaaRepFollows
import Derived.Test.YtpbmacbogmnokaaBatchGet
import Derived.Test.YtpbmacbogmnokaaRefText
import Derived.Test.YtpbmacbogmnokaaBatchPut
import Derived.Test.YtpbmacbogmnokaaMoves
import Derived.Test.YtpbmacbogmnokaaFrame
import Derived.Test.YtpbmacbogmnokaaLists
import Derived.Test.YtpbmacbogmnokaaBats
import Derived.Test.YtpbmacbogmnokaaRegion
import Derived.Test.YtpbmacbogmnokaaOpsIns
import Derived.Test.YtpbmacbogmnokaaBase
import Derived.Test.YtpbmacbogmnokaaRows
import Derived.ProofKit
import Derived.OpenShut
import Derived.ShutString
import Derived.ChangeOld
import Derived.Test.YtpbmacbogmnokaaOps
import Derived.Lib.SmallJoins
import Derived.Deep.Slices

/-
  What replay.Scan does, for any bytes.
-/
namespace Go.Proofs.Ytpbmacbogmnokaa
open Go.RowKit

/-- What Scan tells. -/
def ScanB (w : World) (l : List UInt8) (e : Ending) (w' : World) : Prop :=
  ∃ v xs, e = .returned (.tuple #[v, .int .i64 ((logL l).2 : Nat)]) ∧ xs.map (·.1) = (logL l).1 ∧ OwnBs w' w.heap.size v xs ∧ Below w.heap.size w w'

/-- What holds in its loop. -/
structure ScIn (l : List UInt8) (k : Nat) (xs : List BV) : Prop where
  le : k ≤ l.length
  few : xs.length ≤ k
  so : LogSo l (xs.map (·.1)) k
  low : ∀ x ∈ xs, x.1.s ≤ 9007199254740992

theorem ScIn.start (l : List UInt8) : ScIn l 0 [] := ⟨Nat.zero_le _, Nat.le_refl _, LogSo.start l, fun x h => by cases h⟩

theorem ScIn.next {l : List UInt8} {k q : Nat} {xs : List BV} {b : Bat} {c : Value} (h : ScIn l k xs) (hr : recAt l k = some (b, q)) (hg : goesOn (xs.map (·.1)) b = true) : ScIn l q (xs ++ [(b, c)]) := by
  obtain ⟨_, hq, hq2, hm, _⟩ := recAt_some hr
  have := h.few
  refine ⟨hq2, by simp; omega, by simpa using h.so.next hr hg, fun x hx => ?_⟩
  rw [List.mem_append, List.mem_singleton] at hx
  rcases hx with hx | rfl
  · exact h.low x hx
  · exact (mayBt_true hm).2.1

theorem rec_elem {w : World} {B : Nat} {l : List UInt8} {k q : Nat} {b : Bat} {c v : Value} (hr : recAt l k = some (b, q)) (ho : OwnO w B 43 c b.ops) (hv : ∀ k, c.ownBlock = some k → v.ownBlock ≠ some k) : ElemB w B v (b, c) :=
  ⟨ho, (may_fits (recAt_some hr).2.2.2.1).1, (may_fits (recAt_some hr).2.2.2.1).2, hv⟩

set_option maxRecDepth 100000 in
set_option maxHeartbeats 4000000 in
theorem rpscan_any (w : World) (v : Value) (l : List UInt8) (h : RdB w v l) (hn : l.length < 1000000000) :
    Calls Try.prog 9 #[v] w (ScanB w l) := by
  have HV := Lib.hid h
  clear h
  go_enter Try.func9, Try.ntmps9
  go_wp2
  go_step3
  go_wp2
  go_step3
  go_wp2
  go_loopw [2, 3] (fun u at_ wr => ∃ (k : Nat) (xs : List BV), at_ = .int .i64 k ∧ Hid (ScIn l k xs) ∧ Hid (OwnBs wr w.heap.size u xs) ∧ Hid (Below w.heap.size w wr)) (fun _ at_ _ => l.length - (intOf at_).toNat)
  case atStart => exact ⟨0, [], rfl, Lib.hid (ScIn.start l), Lib.hid (OwnBs.nil _ _), Lib.hid (Below.refl _ _)⟩
  case round =>
    obtain ⟨k, xs, rfl, HS, HO, HB⟩ := hrel
    have HG := Lib.hid (rpget_any _ l k wr (HV.out.below HB.out (Nat.le_refl _)) hn HS.out.le)
    cases hr : recAt l k with
    | none =>
      have HST := Lib.hid (HS.out.so.stop hr)
      rw [hr] at HG
      clear hr
      go_wp2_with fail
      refine HG.out.mono ?_
      rintro e w1 ⟨rfl, hb1⟩
      have HB1 := Lib.hid hb1
      clear hb1
      go_wp2
      rw [Exit.noGoto_ret]
      go_ret2
      unfold ScanB
      rw [HST.out]
      exact ⟨_, xs, rfl, rfl, HO.out.below (HB1.out.alloc HB1.out.size _) (Nat.le_refl _), HB.out.trans (Below.mono (HB1.out.alloc HB1.out.size _) HB.out.size)⟩
    | some x =>
      obtain ⟨b, q⟩ := x
      have hq := (recAt_some hr).2.1
      have hq2 := (recAt_some hr).2.2.1
      have HR := Lib.hid hr
      rw [hr] at HG
      have HFEW := Lib.hid HS.out.few
      have hlow := HS.out.low
      have HLOW := Lib.hid hlow
      obtain ⟨ua, uc, rfl, _, hu2⟩ := HO.out.form
      have HF := fun W (hW : Below wr.heap.size wr W) c => Lib.hid (follows_any (.slice ua xs.length uc) xs b c W (HO.out.read.below hW (Nat.le_refl _)) hlow (by have := HS.out.few; have := HS.out.le; omega))
      have HF := Lib.hid HF
      cases hgo : goesOn (xs.map (·.1)) b with
      | false =>
        have HST := Lib.hid (HS.out.so.stop2 hr hgo)
        rw [hgo] at HF
        clear hr hgo hlow hq hq2
        go_wp2_with (first | (go_at_call 17; refine HG.out.mono ?_; rintro e w1 ⟨⟨c, rfl, hc⟩, hb1⟩; obtain ⟨ca, cc, rfl, _, _⟩ := hc.form; have HB1 := Lib.hid hb1; clear hb1 hc) | (go_at_call 18; refine ((HF.out _ (HB1.out.alloc HB1.out.size _) _).out).mono ?_; rintro e w2 ⟨rfl, hb2⟩; have HB2 := Lib.hid hb2; clear hb2))
        rw [Exit.noGoto_ret]
        go_ret2
        unfold ScanB
        rw [HST.out]
        exact ⟨_, xs, rfl, rfl, HO.out.below ((HB1.out.alloc HB1.out.size _).trans (HB2.out.mono (by have := HB1.out.size; simp; omega))) (Nat.le_refl _), HB.out.trans (Below.mono ((HB1.out.alloc HB1.out.size _).trans (HB2.out.mono (by have := HB1.out.size; simp; omega))) HB.out.size)⟩
      | true =>
        have HN := fun c => Lib.hid (HS.out.next (c := c) hr hgo)
        have HN := Lib.hid HN
        rw [hgo] at HF
        have HQ : Hid (k < q ∧ q ≤ l.length) := Lib.hid (by omega)
        clear hr hgo hlow hq hq2
        go_wp2_with (first | (go_at_call 17; refine HG.out.mono ?_; rintro e w1 ⟨⟨c, rfl, hc⟩, hb1⟩; obtain ⟨ca, cc, rfl, _, _⟩ := hc.form; have HC1 := Lib.hid hc; have HB1 := Lib.hid hb1; clear hb1 hc) | (go_at_call 18; refine ((HF.out _ (HB1.out.alloc HB1.out.size _) _).out).mono ?_; rintro e w2 ⟨rfl, hb2⟩; have d0 := (hb2.cell (p := ⟨w1.heap.size, 0, none⟩) (by simp)).trans (by go_simp : _ = some (Value.int .i64 b.s)); have d1 := (hb2.cell (p := ⟨w1.heap.size, 1, none⟩) (by simp)).trans (by go_simp : _ = some (Value.slice ca b.ops.length cc)); have hlt2 : w1.heap.size < w2.heap.size := Nat.lt_of_lt_of_le (by simp) hb2.size; have HB12 := Lib.hid (((Below.refl w1.heap.size w1).alloc (Nat.le_refl _) _).trans (hb2.mono (by simp))); have HBr2 := Lib.hid ((HB1.out.alloc HB1.out.size _).trans (hb2.mono (by have := HB1.out.size; simp; omega))); clear hb2; obtain ⟨x1, x2⟩ := HO.out.push (x := (b, .slice ca b.ops.length cc)) (w1 := w2.alloc (.cells #[.int .i64 b.s, .slice ca b.ops.length cc] 24)) (HBr2.out.alloc HBr2.out.size _) HB.out.size (rec_elem HR.out (own_mono (OwnO.below HC1.out (HB12.out.alloc HB12.out.size _) (Nat.le_refl _)) HB.out.size) fun k hk e => by have := (World.ownsRow.lt HC1.out k hk).1; have := (HO.out.lt (.inl e)).2; omega); have X1 := Lib.hid x1; have X2 := Lib.hid x2; clear x1 x2) | (at_builtin; refine wpList_plain rfl fun K' hK' => ?_; refine wp_append_at (.tmp 22) (.tmp 24) 28 rfl 24 2 32 (.agg #[.int .i64 0, .slice none 0 0]) Try.underlying28 info_bats rfl (by decide) _ _ _ 1 _ _ rfl rfl X1.out (one_bat _ _ _) (by simp [Value.oneCell']) ?n1 ?n2 ?k1))
        case n1 => have := HS.out.few; have := HS.out.le; omega
        case n2 => have := HS.out.few; have := HS.out.le; unfold maxLen; omega
        case k1 =>
          intro v' w' hown hmv
          refine hK' _ _ ?_
          obtain ⟨q1, q2⟩ := X2.out v' w' hown hmv
          have Q1 := Lib.hid q1
          have Q2 := Lib.hid q2
          clear q1 q2 hown hmv
          go_wp2
          go_roundw
          case rel => exact ⟨q, xs ++ [(b, .slice ca b.ops.length cc)], rfl, HN.out _, Q1, Lib.hid (HB.out.trans (Q2.out.mono (Nat.le_refl _)))⟩
          case measure => have := HQ.out; simp [intOf]; omega
end Go.Proofs.Ytpbmacbogmnokaa

/-
  What the document's GetBatch does, for any bytes.
-/
namespace Go.Proofs.Ytpbmacbogmnokaa
open Go.RowKit

theorem getBat_none {l : List UInt8} (h : batAt l = none) : getBat l = none := by unfold getBat; rw [h]
theorem getBat_no {l : List UInt8} {s e : Nat} {ops : List Ope} (h : batAt l = some (s, ops, e)) (h2 : ¬ (e = l.length ∧ mayBt (s : Int) ops = true)) : getBat l = none := by
  unfold getBat
  rw [h]
  simp only
  rw [if_neg fun hp => h2 ((getBat_iff h).1 hp)]
theorem getBat_yes {l : List UInt8} {s e : Nat} {ops : List Ope} (h : batAt l = some (s, ops, e)) (h2 : e = l.length) (h3 : mayBt (s : Int) ops = true) : getBat l = some (s, ops) := by
  unfold getBat
  rw [h]
  simp only
  rw [if_pos ((getBat_iff h).2 ⟨h2, h3⟩)]

theorem opAt_n1 {l : List UInt8} {p : Nat} (h : getAt l (p : Int) = none) : opAt l p = none := by unfold opAt; rw [h]
theorem opAt_n2 {l : List UInt8} {p k a : Nat} (h : getAt l (p : Int) = some (k, a)) (h2 : textAt l (a : Int) = none) : opAt l p = none := by unfold opAt; rw [h]; simp only; rw [h2]
theorem opAt_n3 {l : List UInt8} {p a b : Nat} {key : List UInt8} (h : getAt l (p : Int) = some (1, a)) (h2 : textAt l (a : Int) = some (key, b)) (h3 : textAt l (b : Int) = none) : opAt l p = none := by
  unfold opAt; rw [h]; simp only; rw [h2]; simp only [if_true]; rw [h3]
theorem opAt_s1 {l : List UInt8} {p a b c : Nat} {key val : List UInt8} (h : getAt l (p : Int) = some (1, a)) (h2 : textAt l (a : Int) = some (key, b)) (h3 : textAt l (b : Int) = some (val, c)) : opAt l p = some (⟨1, strB key, strB val⟩, c) := by
  unfold opAt; rw [h]; simp only; rw [h2]; simp only [if_true]; rw [h3]
theorem opAt_s2 {l : List UInt8} {p k a b : Nat} {key : List UInt8} (h : getAt l (p : Int) = some (k, a)) (h2 : textAt l (a : Int) = some (key, b)) (hk : k ≠ 1) : opAt l p = some (⟨(k : Int), strB key, ⟨#[]⟩⟩, b) := by
  unfold opAt; rw [h]; simp only; rw [h2]; simp only; rw [if_neg hk]

set_option maxRecDepth 100000 in
set_option maxHeartbeats 16000000 in
theorem rgetB_any (v : Value) (l : List UInt8) (w : World) (hv : RdB w v l) :
    Calls Try.prog 20 #[v] w fun e w' => AnsGet (getBat l) w.heap.size e w' ∧ Below w.heap.size w w' := by
  obtain ⟨a, cap, rfl, hc1, hc2⟩ := hv.form
  unfold maxLen at hc2
  have HV := Lib.hid (hv.below ((Below.refl w.heap.size w).alloc (Nat.le_refl _) (.cells #[.int .i64 0, .slice none 0 0] 24)) (Nat.le_refl _))
  have HV0 := Lib.hid hv
  clear hv
  cases hg : getAt l 0 with
  | none =>
    have HG := Lib.hid hg
    have HR := Lib.hid (getBat_none (batAt_n1 hg))
    clear hg
    rw [HR.out]
    go_enter Try.func20, Try.ntmps20
    go_wp2_with (go_at_call 33; refine (rget_any _ l _ _ HV.out).mono ?_; rintro e w1 ⟨rfl, rfl⟩; (first | rw [HG.out]); unfold ans3)
    refine bodyPost_ret (v := .tuple #[.agg #[.int .i64 0, .slice none 0 0], .bool false]) (by simp [results, Try.results20, go_sem]) rfl ?_
    exact ⟨rfl, (by repeat (first | exact (Below.refl _ _).alloc (Nat.le_refl _) _ | refine Below.setCell ?_ (Nat.le_refl _) _))⟩
  | some x =>
    obtain ⟨s, a1⟩ := x
    have HG := Lib.hid hg
    cases hg2 : getAt l (a1 : Int) with
    | none =>
      have HG2 := Lib.hid hg2
      have HR := Lib.hid (getBat_none (batAt_n2 hg hg2))
      clear hg hg2
      rw [HR.out]
      go_enter Try.func20, Try.ntmps20
      go_wp2_with (go_at_call 33; refine (rget_any _ l _ _ HV.out).mono ?_; rintro e w1 ⟨rfl, rfl⟩; (first | rw [HG.out] | rw [HG2.out]); unfold ans3)
      refine bodyPost_ret (v := .tuple #[.agg #[.int .i64 0, .slice none 0 0], .bool false]) (by simp [results, Try.results20, go_sem]) rfl ?_
      exact ⟨rfl, (by repeat (first | exact (Below.refl _ _).alloc (Nat.le_refl _) _ | refine Below.setCell ?_ (Nat.le_refl _) _))⟩
    | some y =>
      obtain ⟨n, b1⟩ := y
      have HG2 := Lib.hid hg2
      by_cases h32 : 32 < n
      · have HR := Lib.hid (getBat_none (batAt_n3 hg hg2 h32))
        have i32 : (32 : Int) < (n : Int) := by omega
        clear hg hg2
        rw [HR.out]
        go_enter Try.func20, Try.ntmps20
        go_wp2_with (go_at_call 33; refine (rget_any _ l _ _ HV.out).mono ?_; rintro e w1 ⟨rfl, rfl⟩; (first | rw [HG.out] | rw [HG2.out]); unfold ans3)
        refine bodyPost_ret (v := .tuple #[.agg #[.int .i64 0, .slice none 0 0], .bool false]) (by simp [results, Try.results20, go_sem]) rfl ?_
        exact ⟨rfl, (by repeat (first | exact (Below.refl _ _).alloc (Nat.le_refl _) _ | refine Below.setCell ?_ (Nat.le_refl _) _))⟩
      · have HR := Lib.hid (batAt_ops hg hg2 h32)
        have i32 : (n : Int) ≤ 32 := by omega
        have HST := Lib.hid (St.start w (s : Int))
        clear hg hg2
        go_enter Try.func20, Try.ntmps20
        go_wp2_with (go_at_call 33; refine (rget_any _ l _ _ HV.out).mono ?_; rintro e w1 ⟨rfl, rfl⟩; (first | rw [HG.out] | rw [HG2.out]); unfold ans3)
        go_loopw [8, 11] (fun pv kv wr => ∃ (k p : Nat) (u : Value) (ops : List Ope), k ≤ n ∧ pv = .int .i64 p ∧ kv = .int .i64 k ∧ ops.length = k ∧ St w (s : Int) wr u ops ∧ Hid (opsAt l n b1 = (opsAt l (n - k) p).map fun x => (ops ++ x.1, x.2))) (fun _ kv _ => n - (intOf kv).toNat)
        case atStart => exact ⟨0, b1, _, [], Nat.zero_le _, rfl, rfl, rfl, HST.out, Lib.hid (by simp)⟩
        case round =>
          obtain ⟨k, p, u, ops, hk, rfl, rfl, hlen, hst, HO⟩ := hrel
          obtain ⟨⟨z0, z1, z2, z3⟩, c0, c1, c2, c3⟩ := hst.cells
          obtain ⟨ua, uc, rfl, _, _⟩ := hst.own.form
          have HS := Lib.hid hst
          have HLEN := Lib.hid hlen
          have HVR := Lib.hid (HV0.out.below HS.out.bel (Nat.le_refl _))
          have hy0 : w.heap.size < wr.heap.size := Nat.lt_of_lt_of_le (by omega) hst.sz
          have hy1 : w.heap.size + 1 < wr.heap.size := Nat.lt_of_lt_of_le (by omega) hst.sz
          clear hst hlen
          by_cases hlt : k < n
          · have hnk : n - k = (n - (k + 1)) + 1 := by omega
            cases hgp : getAt l (p : Int) with
            | none =>
              have HGP := Lib.hid hgp
              have HN : Hid (getBat l = none) := Lib.hid (getBat_none (by rw [HR.out, HO.out, hnk, opsAt_none (opAt_n1 hgp)]; rfl))
              clear hgp hnk
              cases ht : textAt l 0 with
              | none =>
                have HT := Lib.hid ht
                clear ht
                go_wp2_with (first | (go_at_call 33; refine (rget_any _ l _ _ HVR.out).mono ?_; rintro e w1 ⟨rfl, rfl⟩; (first | rw [HGP.out]); unfold ans3) | (go_at_call 34; refine (rgetText_any _ l _ _ HVR.out).mono ?_; rintro e w1 ⟨rfl, rfl⟩; (first | rw [HT.out]); unfold ansT))
                refine bodyPost_ret (v := .tuple #[.agg #[.int .i64 0, .slice none 0 0], .bool false]) (by simp [results, Try.results20, go_sem, z0, z1]) rfl ?_
                exact ⟨by rw [HN.out]; rfl, (HS.out.bel.setCell (Nat.le_refl _) _).setCell (Nat.le_refl _) _⟩
              | some tx =>
                obtain ⟨ts, te⟩ := tx
                have HT := Lib.hid ht
                clear ht
                go_wp2_with (first | (go_at_call 33; refine (rget_any _ l _ _ HVR.out).mono ?_; rintro e w1 ⟨rfl, rfl⟩; (first | rw [HGP.out]); unfold ans3) | (go_at_call 34; refine (rgetText_any _ l _ _ HVR.out).mono ?_; rintro e w1 ⟨rfl, rfl⟩; (first | rw [HT.out]); unfold ansT))
                refine bodyPost_ret (v := .tuple #[.agg #[.int .i64 0, .slice none 0 0], .bool false]) (by simp [results, Try.results20, go_sem, z0, z1]) rfl ?_
                exact ⟨by rw [HN.out]; rfl, (HS.out.bel.setCell (Nat.le_refl _) _).setCell (Nat.le_refl _) _⟩
            | some gx =>
              obtain ⟨kd, ka⟩ := gx
              have HGP := Lib.hid hgp
              cases ht : textAt l (ka : Int) with
              | none =>
                have HT := Lib.hid ht
                have HN : Hid (getBat l = none) := Lib.hid (getBat_none (by rw [HR.out, HO.out, hnk, opsAt_none (opAt_n2 hgp ht)]; rfl))
                clear hgp ht hnk
                go_wp2_with (first | (go_at_call 33; refine (rget_any _ l _ _ HVR.out).mono ?_; rintro e w1 ⟨rfl, rfl⟩; (first | rw [HGP.out]); unfold ans3) | (go_at_call 34; refine (rgetText_any _ l _ _ HVR.out).mono ?_; rintro e w1 ⟨rfl, rfl⟩; (first | rw [HT.out]); unfold ansT))
                refine bodyPost_ret (v := .tuple #[.agg #[.int .i64 0, .slice none 0 0], .bool false]) (by simp [results, Try.results20, go_sem, z0, z1]) rfl ?_
                exact ⟨by rw [HN.out]; rfl, (HS.out.bel.setCell (Nat.le_refl _) _).setCell (Nat.le_refl _) _⟩
              | some tx =>
                obtain ⟨key, kb⟩ := tx
                have HT := Lib.hid ht
                by_cases hkd : kd = 1
                · subst hkd
                  have HVX := Lib.hid (HVR.out.below ((Below.refl wr.heap.size wr).alloc (Nat.le_refl _) (.cells #[.int .i64 1, .string (strB key), .string ⟨#[]⟩] 43)) (Nat.le_refl _))
                  cases ht2 : textAt l (kb : Int) with
                  | none =>
                    have HT2 := Lib.hid ht2
                    have HN : Hid (getBat l = none) := Lib.hid (getBat_none (by rw [HR.out, HO.out, hnk, opsAt_none (opAt_n3 hgp ht ht2)]; rfl))
                    clear hgp ht ht2 hnk
                    go_wp2_with (first | (go_at_call 33; refine (rget_any _ l _ _ HVR.out).mono ?_; rintro e w1 ⟨rfl, rfl⟩; (first | rw [HGP.out]); unfold ans3) | (go_at_call 34; refine (rgetText_any _ l _ _ HVR.out).mono ?_; rintro e w1 ⟨rfl, rfl⟩; (first | rw [HT.out]); unfold ansT) | (go_at_call 34; refine (rgetText_any _ l _ _ HVX.out).mono ?_; rintro e w1 ⟨rfl, rfl⟩; (first | rw [HT2.out]); unfold ansT))
                    refine bodyPost_ret (v := .tuple #[.agg #[.int .i64 0, .slice none 0 0], .bool false]) (by simp [results, Try.results20, go_sem, z0, z1, hy0]) rfl ?_
                    exact ⟨by rw [HN.out]; rfl, ((HS.out.bel.setCell (Nat.le_refl _) _).setCell (Nat.le_refl _) _).alloc (by simp; omega) _⟩
                  | some tx2 =>
                    obtain ⟨val, kc⟩ := tx2
                    have HT2 := Lib.hid ht2
                    have HN : Hid (opsAt l n b1 = (opsAt l (n - (k + 1)) kc).map fun x => ((ops ++ [(⟨1, strB key, strB val⟩ : Ope)]) ++ x.1, x.2)) := Lib.hid (by rw [HO.out, hnk, opsAt_step (opAt_s1 hgp ht ht2)]; cases opsAt l (n - (k + 1)) kc <;> simp)
                    clear hgp ht ht2 hnk
                    go_wp2_with (first | (go_at_call 33; refine (rget_any _ l _ _ HVR.out).mono ?_; rintro e w1 ⟨rfl, rfl⟩; (first | rw [HGP.out]); unfold ans3) | (go_at_call 34; refine (rgetText_any _ l _ _ HVR.out).mono ?_; rintro e w1 ⟨rfl, rfl⟩; (first | rw [HT.out]); unfold ansT) | (go_at_call 34; refine (rgetText_any _ l _ _ HVX.out).mono ?_; rintro e w1 ⟨rfl, rfl⟩; (first | rw [HT2.out]); unfold ansT) | (at_builtin; refine wpList_append_rd rfl (.tmp 94) (.tmp 96) 22 rfl (w.heap.size + 2) 43 3 40 (.agg #[.int .i64 0, .string ⟨#[]⟩, .string ⟨#[]⟩]) Try.underlying22 info_op rfl (by decide) _ _ _ 1 _ ([(⟨1, strB key, strB val⟩ : Ope)].flatMap Ope.cells) rfl rfl (World.ownsRow.alloc (OwnO.below HS.out.own ((Below.refl wr.heap.size wr).alloc (Nat.le_refl _) _) (Nat.le_refl _)) _) ?rdA (opFlat_one _) ?bbA ?l1A ?l2A ?kkA))
                    case rdA =>
                      have h := one_op (wr.alloc (.cells #[.int .i64 1, .string (strB key), .string (strB val)] 43)) ⟨1, strB key, strB val⟩
                      have hs : (wr.alloc (.cells #[.int .i64 1, .string (strB key), .string (strB val)] 43)).heap.size = wr.heap.size + 1 := by simp
                      rw [hs] at h
                      rw [opFlat_one_]
                      exact h
                    case bbA => (have := HS.out.sz; simp; omega)
                    case l1A => (have := HLEN.out; omega)
                    case l2A => (have := HLEN.out; unfold maxLen; omega)
                    case kkA =>
                      intro vA wA hown hBk
                      have hsz := HS.out.sz
                      have hb := hBk (w.heap.size + 2) wr (Nat.le_refl _) ((((Below.refl wr.heap.size wr).alloc (Nat.le_refl _) _).mono hsz).alloc (by simp; omega) _)
                      have ho : OwnO wA (w.heap.size + 2) 43 vA (ops ++ [⟨1, strB key, strB val⟩]) := by unfold OwnO; rw [List.length_append, opFlat_app]; exact hown
                      obtain ⟨va, vc, rfl, _, _⟩ := ho.form
                      have d1 := (hb.cell (p := ⟨w.heap.size + 1, 1, none⟩) (by show w.heap.size + 1 < w.heap.size + 2; omega)).trans c1
                      have d3 := (hb.frozen (p := ⟨w.heap.size + 1, 1, none⟩) (by show w.heap.size + 1 < w.heap.size + 2; omega)).trans c3
                      have hnew := HS.out.more hb ho
                      simp only [List.length_append, List.length_cons, List.length_nil, Nat.zero_add] at hnew
                      have HNEW := Lib.hid hnew
                      clear hsz hb ho hown hBk z0 z1 z2 z3 c0 c1 c2 c3 hnew
                      go_wp2
                      refine ⟨⟨k + 1, kc, _, ops ++ [⟨1, strB key, strB val⟩], by omega, rfl, by go_num, by rw [List.length_append, HLEN.out]; rfl, HNEW.out, HN⟩, ?_⟩
                      simp [intOf]; omega
                · have HN : Hid (opsAt l n b1 = (opsAt l (n - (k + 1)) kb).map fun x => ((ops ++ [(⟨(kd : Int), strB key, ⟨#[]⟩⟩ : Ope)]) ++ x.1, x.2)) := Lib.hid (by rw [HO.out, hnk, opsAt_step (opAt_s2 hgp ht hkd)]; cases opsAt l (n - (k + 1)) kb <;> simp)
                  have hkd1 : ((kd : Int) == 1) = false := by simp; omega
                  clear hgp ht hnk
                  go_wp2_with (first | (go_at_call 33; refine (rget_any _ l _ _ HVR.out).mono ?_; rintro e w1 ⟨rfl, rfl⟩; (first | rw [HGP.out]); unfold ans3) | (go_at_call 34; refine (rgetText_any _ l _ _ HVR.out).mono ?_; rintro e w1 ⟨rfl, rfl⟩; (first | rw [HT.out]); unfold ansT) | (at_builtin; refine wpList_append_rd rfl (.tmp 94) (.tmp 96) 22 rfl (w.heap.size + 2) 43 3 40 (.agg #[.int .i64 0, .string ⟨#[]⟩, .string ⟨#[]⟩]) Try.underlying22 info_op rfl (by decide) _ _ _ 1 _ ([(⟨(kd : Int), strB key, ⟨#[]⟩⟩ : Ope)].flatMap Ope.cells) rfl rfl (World.ownsRow.alloc (OwnO.below HS.out.own ((Below.refl wr.heap.size wr).alloc (Nat.le_refl _) _) (Nat.le_refl _)) _) ?rdA (opFlat_one _) ?bbA ?l1A ?l2A ?kkA))
                  case rdA =>
                    have h := one_op (wr.alloc (.cells #[.int .i64 (kd : Int), .string (strB key), .string ⟨#[]⟩] 43)) ⟨(kd : Int), strB key, ⟨#[]⟩⟩
                    have hs : (wr.alloc (.cells #[.int .i64 (kd : Int), .string (strB key), .string ⟨#[]⟩] 43)).heap.size = wr.heap.size + 1 := by simp
                    rw [hs] at h
                    rw [opFlat_one_]
                    exact h
                  case bbA => (have := HS.out.sz; simp; omega)
                  case l1A => (have := HLEN.out; omega)
                  case l2A => (have := HLEN.out; unfold maxLen; omega)
                  case kkA =>
                    intro vA wA hown hBk
                    have hsz := HS.out.sz
                    have hb := hBk (w.heap.size + 2) wr (Nat.le_refl _) ((((Below.refl wr.heap.size wr).alloc (Nat.le_refl _) _).mono hsz).alloc (by simp; omega) _)
                    have ho : OwnO wA (w.heap.size + 2) 43 vA (ops ++ [⟨(kd : Int), strB key, ⟨#[]⟩⟩]) := by unfold OwnO; rw [List.length_append, opFlat_app]; exact hown
                    obtain ⟨va, vc, rfl, _, _⟩ := ho.form
                    have d1 := (hb.cell (p := ⟨w.heap.size + 1, 1, none⟩) (by show w.heap.size + 1 < w.heap.size + 2; omega)).trans c1
                    have d3 := (hb.frozen (p := ⟨w.heap.size + 1, 1, none⟩) (by show w.heap.size + 1 < w.heap.size + 2; omega)).trans c3
                    have hnew := HS.out.more hb ho
                    simp only [List.length_append, List.length_cons, List.length_nil, Nat.zero_add] at hnew
                    have HNEW := Lib.hid hnew
                    clear hsz hb ho hown hBk z0 z1 z2 z3 c0 c1 c2 c3 hnew
                    go_wp2
                    refine ⟨⟨k + 1, kb, _, ops ++ [⟨(kd : Int), strB key, ⟨#[]⟩⟩], by omega, rfl, by go_num, by rw [List.length_append, HLEN.out]; rfl, HNEW.out, HN⟩, ?_⟩
                    simp [intOf]; omega
          · obtain rfl : k = n := by omega
            have HBAT : Hid (batAt l = some (s, ops, p)) := Lib.hid (by rw [HR.out, HO.out, Nat.sub_self]; simp [opsAt])
            have hmb := rmayB_any (s : Int) (.slice ua ops.length uc) ops wr (HS.out.own.read (batAt_fits (by unfold maxLen; omega) HBAT.out)) (by have := HLEN.out; omega)
            by_cases hp : p = l.length
            · have hq : ((p : Int) != (l.length : Int)) = false := by simp [hp]
              cases hm : mayBt (s : Int) ops with
              | true =>
                rw [hm] at hmb
                have HMB := Lib.hid hmb
                have HN := Lib.hid (getBat_yes HBAT.out hp hm)
                clear hmb hm hp
                go_wp2_with (go_at_call 24; refine HMB.out.mono ?_; rintro e w8 ⟨rfl, hb8⟩; have hs8 := HS.out.call hb8; obtain ⟨⟨z0, z1, z2, z3⟩, c0, c1, c2, c3⟩ := hs8.cells; have HS8 := Lib.hid hs8; clear hb8 hs8)
                refine bodyPost_ret (v := .tuple #[.agg #[.int .i64 (s : Int), .slice ua ops.length uc], .bool true]) (by simp [results, Try.results20, go_sem, z0, z1]) rfl ?_
                refine ⟨?_, (HS8.out.bel.setCell (Nat.le_refl _) _).setCell (Nat.le_refl _) _⟩
                rw [HN.out]
                refine ⟨_, rfl, ?_⟩
                have ho := HS8.out.own
                exact own_mono (own_kept ho (R := fun q => w.heap.size + 2 ≤ q) (((Kept.refl _ _).setCell (by simp) _).setCell (by simp) _) fun q hq => (World.ownsRow.lt ho q hq).1) (by omega)
              | false =>
                rw [hm] at hmb
                have HMB := Lib.hid hmb
                have HN := Lib.hid (getBat_no HBAT.out (fun h => by rw [hm] at h; exact absurd h.2 (by simp)))
                clear hmb hm hp
                go_wp2_with (go_at_call 24; refine HMB.out.mono ?_; rintro e w8 ⟨rfl, hb8⟩; have hs8 := HS.out.call hb8; obtain ⟨⟨z0, z1, z2, z3⟩, c0, c1, c2, c3⟩ := hs8.cells; have HS8 := Lib.hid hs8; clear hb8 hs8)
                refine bodyPost_ret (v := .tuple #[.agg #[.int .i64 0, .slice none 0 0], .bool false]) (by simp [results, Try.results20, go_sem, z0, z1]) rfl ?_
                exact ⟨by rw [HN.out]; rfl, (HS8.out.bel.setCell (Nat.le_refl _) _).setCell (Nat.le_refl _) _⟩
            · have hq : ((p : Int) != (l.length : Int)) = true := by simp; omega
              have HN := Lib.hid (getBat_no HBAT.out (fun h => hp h.1))
              clear hmb hp
              go_wp2
              refine bodyPost_ret (v := .tuple #[.agg #[.int .i64 0, .slice none 0 0], .bool false]) (by simp [results, Try.results20, go_sem, z0, z1]) rfl ?_
              exact ⟨by rw [HN.out]; rfl, (HS.out.bel.setCell (Nat.le_refl _) _).setCell (Nat.le_refl _) _⟩
end Go.Proofs.Ytpbmacbogmnokaa

/-
  Bytes that are told while an operation lies in a box: each append leaves the box.
-/
namespace Go.Proofs.Ytpbmacbogmnokaa
open Go.RowKit

/-- The bytes 'l' are told in 'v'; the operation 'o' lies in block 'q'; below 'B' all is as in 'w1'. -/
structure Told (w1 : World) (B q : Nat) (o : Ope) (w : World) (v : Value) (l : List UInt8) : Prop where
  own : OwnB w B 5 v l
  bel : Below B w1 w
  c0 : w.cell? ⟨q, 0, none⟩ = some (.int .i64 o.k)
  c1 : w.cell? ⟨q, 1, none⟩ = some (.string o.u)
  c2 : w.cell? ⟨q, 2, none⟩ = some (.string o.v)
  ql : q < w.heap.size
  bl : B ≤ w.heap.size
  ne : v.ownBlock ≠ some q

variable {w1 : World} {B q : Nat} {o : Ope} {w w' : World} {v v' : Value} {l r : List UInt8}

theorem Told.call (h : Told w1 B q o w v l) (hb : Below w.heap.size w w') : Told w1 B q o w' v l where
  own := h.own.below hb (Nat.le_refl _)
  bel := h.bel.trans (hb.mono h.bl)
  c0 := (hb.cell (p := ⟨q, 0, none⟩) h.ql).trans h.c0
  c1 := (hb.cell (p := ⟨q, 1, none⟩) h.ql).trans h.c1
  c2 := (hb.cell (p := ⟨q, 2, none⟩) h.ql).trans h.c2
  ql := Nat.lt_of_lt_of_le h.ql hb.size
  bl := Nat.le_trans h.bl hb.size
  ne := h.ne

theorem Told.append (h : Told w1 B q o w v l) (ho : w'.ownsRow 0 5 1 v' (l.length + r.length) (l.map bv ++ r.map bv)) (hm : Moves w w' v v') : Told w1 B q o w' v' (l ++ r) := by
  have hk := hm.kept (R := fun k => k < w.heap.size ∧ v.ownBlock ≠ some k) fun k hk => hk
  have hq : q < w.heap.size ∧ v.ownBlock ≠ some q := ⟨h.ql, h.ne⟩
  refine ⟨?_, ?_, (hk.cell (p := ⟨q, 0, none⟩) hq).trans h.c0, (hk.cell (p := ⟨q, 1, none⟩) hq).trans h.c1, (hk.cell (p := ⟨q, 2, none⟩) hq).trans h.c2, Nat.lt_of_lt_of_le h.ql hk.size, Nat.le_trans h.bl hk.size, fun e => ?_⟩
  · have := own_base ho fun k hk => by
      rcases hm.at_ k hk with h1 | h1
      · exact (World.ownsRow.lt h.own k h1).1
      · exact Nat.le_trans h.bl h1.1
    unfold OwnB
    rw [List.length_append, List.map_append]
    exact this
  · exact Kept.below ((Kept.of h.bel (R := fun k => k < B) fun _ h => h).trans (hk.mono fun k hk => ⟨Nat.lt_of_lt_of_le hk h.bl, fun e => by have := (World.ownsRow.lt h.own k e).1; omega⟩)) fun _ h => h
  · rcases hm.at_ q e with h1 | h1
    · exact h.ne h1
    · have := h.ql; omega

theorem Told.own0 (h : Told w1 B q o w v l) : w.ownsRow 0 5 1 v l.length (l.map bv) := own_mono h.own (Nat.zero_le _)

/-- Behind the box that was just made. -/
theorem Told.start (hu : OwnB w B 5 v l) (hb : Below B w1 w) (hB : B ≤ w.heap.size) (o : Ope) : Told w1 B w.heap.size o (w.alloc (.cells #[.int .i64 o.k, .string o.u, .string o.v] 43)) v l where
  own := World.ownsRow.alloc hu _
  bel := hb.alloc hB _
  c0 := by rw [cell_of_row _ w.heap.size 0 _ 43 (0, 0) (heap_alloc_new w _)]; rfl
  c1 := by rw [cell_of_row _ w.heap.size 1 _ 43 (0, 0) (heap_alloc_new w _)]; rfl
  c2 := by rw [cell_of_row _ w.heap.size 2 _ 43 (0, 0) (heap_alloc_new w _)]; rfl
  ql := by simp
  bl := by simp; omega
  ne := fun e => by have := (World.ownsRow.lt hu _ e).2; omega
end Go.Proofs.Ytpbmacbogmnokaa

/-
  The document's PutBatch, for every batch.
-/
namespace Go.Proofs.Ytpbmacbogmnokaa
open Go.RowKit

set_option maxRecDepth 100000 in
set_option maxHeartbeats 4000000 in
theorem rputB_any (s : Int) (v : Value) (l : List Ope) (w : World) (hv : RdO w v l) (hn : l.length ≤ 100000) :
    Calls Try.prog 26 #[batV s v] w (RetB w.heap.size w (putBat s l)) := by
  obtain ⟨a, cap, rfl, hc1, hc2⟩ := hv.form
  obtain ⟨wB, hwB⟩ : ∃ wB, wB = w.alloc (.cells #[.int .i64 s, .slice a l.length cap] 24) := ⟨_, rfl⟩
  have e0 : wB.cell? ⟨w.heap.size, 0, none⟩ = some (.int .i64 s) := by rw [hwB]; go_simp
  have e1 : wB.cell? ⟨w.heap.size, 1, none⟩ = some (.slice a l.length cap) := by rw [hwB]; go_simp
  have hB : Below w.heap.size w wB := by rw [hwB]; exact (Below.refl _ _).alloc (Nat.le_refl _) _
  have hlt : w.heap.size < wB.heap.size := by rw [hwB]; simp
  have hmay := rmayB_any s (.slice a l.length cap) l wB (hv.below hB (Nat.le_refl _)) hn
  have HWB := Lib.hid hwB
  have HB := Lib.hid hB
  have HV := Lib.hid hv
  clear hB hv hwB
  cases hm : mayBt s l with
  | false =>
    rw [hm] at hmay
    have HM := Lib.hid hmay
    have HR : Hid (putBat s l = []) := Lib.hid (by unfold putBat; rw [hm]; rfl)
    clear hmay hm
    go_enter Try.func26, Try.ntmps26
    go_wp2_with (go_at_call 24; rw [← HWB.out]; refine HM.out.mono ?_; rintro e w1 ⟨rfl, hb⟩)
    go_ret
    exact ⟨_, rfl, by rw [HR.out]; exact OwnB.nil _ _ _, HB.out.trans (hb.mono HB.out.size)⟩
  | true =>
    rw [hm] at hmay
    have HM := Lib.hid hmay
    have HR : Hid (putBat s l = putL s.toNat ++ putL l.length ++ l.flatMap putOpL) := Lib.hid (by unfold putBat; rw [hm]; rfl)
    obtain ⟨hs1, hs2, hmo, _⟩ := mayBt_true hm
    obtain ⟨hl1, hl2, hall⟩ := mayOs_zero hmo
    have HALL := Lib.hid hall
    have HLS := Lib.hid (putL_length s.toNat (by omega))
    have HLN := Lib.hid (putL_length l.length (by omega))
    have hpl : ((l.length : Int)).toNat = l.length := by simp
    clear hmay hm hmo hall
    go_enter Try.func26, Try.ntmps26
    go_upto_region 3 with (go_at_call 24; rw [← HWB.out]; refine HM.out.mono ?_; rintro e w1 ⟨rfl, hb⟩)
    have hb1' := hb
    replace e0 := (hb.cell (p := ⟨w.heap.size, 0, none⟩) hlt).trans e0
    replace e1 := (hb.cell (p := ⟨w.heap.size, 1, none⟩) hlt).trans e1
    have HLT1 : Hid (w.heap.size < w1.heap.size) := Lib.hid (Nat.lt_of_lt_of_le hlt hb.size)
    have HBW := Lib.hid (HB.out.trans (hb.mono HB.out.size))
    have HV1 := Lib.hid (HV.out.below HBW.out (Nat.le_refl _))
    clear hb hb1' hlt
    refine wp_region_plan [(true, 0), (true, 1), (true, 3), (true, 4), (true, 5), (false, 2), (false, 6), (false, 7), (true, 8)] (by kernel_rfl) (by kernel_rfl) (by kernel_rfl) (by kernel_rfl) (by kernel_rfl) ?_
    simp only [planO, List.drop_succ_cons, List.drop_zero]
    refine PlanO.take (v := ?v0) (by kernel_rfl) ?y0 ?r0
    case y0 => (intro wz hz; go_simp; try with_reducible rfl)
    (try simp only [Act.put, List.setIfInBounds_toArray, List.set_cons_zero, List.set_cons_succ])
    refine PlanO.take (v := ?v1) (by kernel_rfl) ?y1 ?r1
    case y1 => (intro wz hz; have c0 := Ext.at_ hz e0; have c1 := Ext.at_ hz e1; go_simp; try with_reducible rfl)
    (try simp only [Act.put, List.setIfInBounds_toArray, List.set_cons_zero, List.set_cons_succ])
    refine PlanO.take (v := ?v3) (by kernel_rfl) ?y3 ?r3
    case y3 => (intro wz hz; go_simp; try with_reducible rfl)
    (try simp only [Act.put, List.setIfInBounds_toArray, List.set_cons_zero, List.set_cons_succ])
    refine PlanO.take (v := ?v4) (by kernel_rfl) ?y4 ?r4
    case y4 => (intro wz hz; have c0 := Ext.at_ hz e0; have c1 := Ext.at_ hz e1; go_simp; try with_reducible rfl)
    (try simp only [Act.put, List.setIfInBounds_toArray, List.set_cons_zero, List.set_cons_succ])
    refine PlanO.take (v := ?v5) (by kernel_rfl) ?y5 ?r5
    case y5 => (intro wz hz; have c0 := Ext.at_ hz e0; have c1 := Ext.at_ hz e1; go_simp; try with_reducible rfl)
    (try simp only [Act.put, List.setIfInBounds_toArray, List.set_cons_zero, List.set_cons_succ])
    refine PlanO.keep (fun K hK => ?_)
    go_simp
    go_at_call 44
    refine (orput_pos _ (by omega) (by omega) _).mono ?_
    rintro e u1 ⟨p1, rfl, ho1, hb1⟩
    have hE1 : Ext w1.drew u1 := hb1
    go_wp2_with fail
    refine hK.out _ _ hb1 ?_
    clear hK K
    (try simp only [Act.put, List.setIfInBounds_toArray, List.set_cons_zero, List.set_cons_succ])
    refine PlanO.keep (fun K hK => ?_)
    go_simp
    go_at_call 44
    refine (orput_pos _ (by omega) (by omega) _).mono ?_
    rintro e u2 ⟨p2, rfl, ho2, hb2⟩
    have hr2 := ho2.read
    clear ho2
    have hE2 : Ext w1.drew u2 := Ext.trans hE1 hb2
    have ho1' := ho1.below hb2 (Nat.le_refl _)
    clear ho1
    go_wp2_with fail
    refine hK.out _ _ (hb2.mono hE1.size) ?_
    clear hK K
    (try simp only [Act.put, List.setIfInBounds_toArray, List.set_cons_zero, List.set_cons_succ])
    refine PlanO.keep (fun K hK => ?_)
    refine step_append_bytes rfl (.tmp 11) (.tmp 15) 27 rfl w1.drew.heap.size 5 Try.underlying27 info_u8 _ _ _ _ rfl rfl ho1' hr2 ?b1 ?b2 ?_
    case b1 => exact hE2.size
    case b2 => (rw [hpl]; have := HLS.out; have := HLN.out; omega)
    intro v' w' hown' hb'
    have hE3 : Ext w1.drew w' := hb' _ _ (Nat.le_refl _) hE2
    refine hK.out _ _ (hb' _ _ (Nat.le_refl _) (Below.refl _ _)) ?_
    clear hK K
    (try simp only [Act.put, List.setIfInBounds_toArray, List.set_cons_zero, List.set_cons_succ])
    refine PlanO.take (v := ?v8) (by kernel_rfl) ?y8 ?r8
    case y8 => (intro wz hz; go_simp; try with_reducible rfl)
    (try simp only [Act.put, List.setIfInBounds_toArray, List.set_cons_zero, List.set_cons_succ])
    refine PlanO.done (NoPanic.normal ?_)
    rw [hpl] at hown'
    have HO := Lib.hid hown'
    have HB3 := Lib.hid (below_draw hE3)
    have k1 := (HB3.out.cell (p := ⟨w.heap.size, 1, none⟩) HLT1.out).trans e1
    have k0 := (HB3.out.cell (p := ⟨w.heap.size, 0, none⟩) HLT1.out).trans e0
    clear hE3 hown' hb1 hb2 hE1 hE2 ho1' hr2 hb' hpl
    go_wp2
    go_loopw [3, 4] (fun u i wr => ∃ (k : Nat) (u' : Value), k ≤ l.length ∧ u' = u ∧ i = .int .i64 k ∧ OwnB wr w1.drew.heap.size 5 u' (putL s.toNat ++ putL l.length ++ (l.take k).flatMap putOpL) ∧ Below w1.heap.size w1 wr) (fun _ i _ => l.length - (intOf i).toNat)
    case atStart => exact ⟨0, _, Nat.zero_le _, rfl, rfl, by simpa using HO.out, HB3.out⟩
    case round =>
      obtain ⟨k, u, hk, rfl, rfl, hu, hbl⟩ := hrel
      have HU := Lib.hid hu
      have HBL := Lib.hid hbl
      clear hu hbl
      by_cases hlt : k < l.length
      · obtain ⟨b, off, rfl, hbw, hcells⟩ := HV1.out.at_ (by intro h; subst h; simp at hlt)
        obtain ⟨d0, d1, d2⟩ := hcells k hlt
        have g0 := (HBL.out.cell (p := ⟨b, off + k * 3, none⟩) hbw).trans d0
        have g1 := (HBL.out.cell (p := ⟨b, off + k * 3 + 1, none⟩) hbw).trans d1
        have g2 := (HBL.out.cell (p := ⟨b, off + k * 3 + 2, none⟩) hbw).trans d2
        have HMORE := Lib.hid (putOps_more hlt)
        have HTL := Lib.hid (putOps_take_len HALL.out hl2 k)
        have HMO : Hid (mayO (l.getD k Ope.none_) = 0) := Lib.hid (HALL.out _ (List.mem_of_getElem? (opGet hlt)))
        have HOL := Lib.hid (putOpL_len HMO.out)
        have HK12 := Lib.hid (mayO_zero HMO.out)
        clear d0 d1 d2 hcells
        generalize l.getD k Ope.none_ = o at *
        have f0 := (HBL.out.cell (p := ⟨w.heap.size, 0, none⟩) HLT1.out).trans e0
        have f1 := (HBL.out.cell (p := ⟨w.heap.size, 1, none⟩) HLT1.out).trans e1
        have HPO : Hid (putOpL o = putL o.k.toNat ++ putT o.key ++ (if o.k = 1 then putT o.v.data.toList else [])) := Lib.hid rfl
        have HOL1 := Lib.hid (putL_length o.k.toNat (by have := HK12.out; omega))
        have HOL2 := Lib.hid (putT_len o.u (by have := HK12.out; omega))
        have HOL3 := Lib.hid (putT_len o.v (by have := HK12.out; omega))
        have hT0 := Told.start HU.out HBL.out HBL.out.size o
        obtain ⟨ok, ou, ov⟩ := o
        obtain ⟨hk0, hu0, hv0, _⟩ := HK12.out
        simp only at g0 g1 g2 hk0 hu0 hv0
        obtain ⟨wo, hwo⟩ : ∃ wo, wo = wr.alloc (.cells #[.int .i64 ok, .string ou, .string ov] 43) := ⟨_, rfl⟩
        have q0 := hT0.c0
        have q1 := hT0.c1
        have q2 := hT0.c2
        have HT := Lib.hid hT0
        clear hT0 hwo
        rcases ope_ways ok with rfl | rfl | ⟨_, _, _, h4, h5⟩
        · go_wp2_with (first | (go_at_call 44; refine (orput_pos _ (by omega) (by omega) _).mono ?_; rintro e u3 ⟨p3, rfl, ho3, hb3⟩; have hT := HT.out.call hb3; have q0 := hT.c0; have q1 := hT.c1; have q2 := hT.c2; have HT := Lib.hid hT; have HO3 := Lib.hid ho3.read; clear ho3 hb3 hT) | (go_at_call 45; refine (rputText_any ou (by omega) _).mono ?_; rintro e u3 ⟨p3, rfl, ho3, hb3⟩; have hT := HT.out.call hb3; have q0 := hT.c0; have q1 := hT.c1; have q2 := hT.c2; have HT := Lib.hid hT; have HO3 := Lib.hid ho3.read; clear ho3 hb3 hT) | (go_at_call 45; refine (rputText_any ov (by omega) _).mono ?_; rintro e u3 ⟨p3, rfl, ho3, hb3⟩; have hT := HT.out.call hb3; have q0 := hT.c0; have q1 := hT.c1; have q2 := hT.c2; have HT := Lib.hid hT; have HO3 := Lib.hid ho3.read; clear ho3 hb3 hT) | (at_builtin; refine wpList_plain rfl fun K' hK' => ?_; refine wp_append_at (.tmp 29) (.tmp 32) 27 rfl 5 1 1 (.int .u8 0) Try.underlying27 info_u8 rfl (by decide) _ _ _ _ _ _ rfl rfl HT.out.own0 HO3.out (bv_oneCell _) (by have := HTL.out; have := HOL1.out; have := HOL2.out; have := HOL3.out; have := HLS.out; have := HLN.out; (try simp only [List.length_append]); omega) (by unfold maxLen; have := HTL.out; have := HOL1.out; have := HOL2.out; have := HOL3.out; have := HLS.out; have := HLN.out; (try simp only [List.length_append]); omega) (fun v' w' hown hmv => hK' _ _ ?_); have hT := HT.out.append hown hmv; have q0 := hT.c0; have q1 := hT.c1; have q2 := hT.c2; have HT := Lib.hid hT; clear hown hmv hT) | (at_builtin; refine wpList_plain rfl fun K' hK' => ?_; refine wp_append_at (.tmp 34) (.tmp 37) 27 rfl 5 1 1 (.int .u8 0) Try.underlying27 info_u8 rfl (by decide) _ _ _ _ _ _ rfl rfl HT.out.own0 HO3.out (bv_oneCell _) (by have := HTL.out; have := HOL1.out; have := HOL2.out; have := HOL3.out; have := HLS.out; have := HLN.out; (try simp only [List.length_append]); omega) (by unfold maxLen; have := HTL.out; have := HOL1.out; have := HOL2.out; have := HOL3.out; have := HLS.out; have := HLN.out; (try simp only [List.length_append]); omega) (fun v' w' hown hmv => hK' _ _ ?_); have hT := HT.out.append hown hmv; have q0 := hT.c0; have q1 := hT.c1; have q2 := hT.c2; have HT := Lib.hid hT; clear hown hmv hT) | (at_builtin; refine wpList_plain rfl fun K' hK' => ?_; refine wp_append_at (.tmp 42) (.tmp 45) 27 rfl 5 1 1 (.int .u8 0) Try.underlying27 info_u8 rfl (by decide) _ _ _ _ _ _ rfl rfl HT.out.own0 HO3.out (bv_oneCell _) (by have := HTL.out; have := HOL1.out; have := HOL2.out; have := HOL3.out; have := HLS.out; have := HLN.out; (try simp only [List.length_append]); omega) (by unfold maxLen; have := HTL.out; have := HOL1.out; have := HOL2.out; have := HOL3.out; have := HLS.out; have := HLN.out; (try simp only [List.length_append]); omega) (fun v' w' hown hmv => hK' _ _ ?_); have hT := HT.out.append hown hmv; have q0 := hT.c0; have q1 := hT.c1; have q2 := hT.c2; have HT := Lib.hid hT; clear hown hmv hT))
          refine ⟨⟨k + 1, _, by omega, rfl, by go_num, ?_, HT.out.bel⟩, ?_⟩
          · have := HT.out.own
            rw [HMORE.out, HPO.out]
            simpa using this
          · simp [intOf]; omega
        · go_wp2_with (first | (go_at_call 44; refine (orput_pos _ (by omega) (by omega) _).mono ?_; rintro e u3 ⟨p3, rfl, ho3, hb3⟩; have hT := HT.out.call hb3; have q0 := hT.c0; have q1 := hT.c1; have q2 := hT.c2; have HT := Lib.hid hT; have HO3 := Lib.hid ho3.read; clear ho3 hb3 hT) | (go_at_call 45; refine (rputText_any ou (by omega) _).mono ?_; rintro e u3 ⟨p3, rfl, ho3, hb3⟩; have hT := HT.out.call hb3; have q0 := hT.c0; have q1 := hT.c1; have q2 := hT.c2; have HT := Lib.hid hT; have HO3 := Lib.hid ho3.read; clear ho3 hb3 hT) | (go_at_call 45; refine (rputText_any ov (by omega) _).mono ?_; rintro e u3 ⟨p3, rfl, ho3, hb3⟩; have hT := HT.out.call hb3; have q0 := hT.c0; have q1 := hT.c1; have q2 := hT.c2; have HT := Lib.hid hT; have HO3 := Lib.hid ho3.read; clear ho3 hb3 hT) | (at_builtin; refine wpList_plain rfl fun K' hK' => ?_; refine wp_append_at (.tmp 29) (.tmp 32) 27 rfl 5 1 1 (.int .u8 0) Try.underlying27 info_u8 rfl (by decide) _ _ _ _ _ _ rfl rfl HT.out.own0 HO3.out (bv_oneCell _) (by have := HTL.out; have := HOL1.out; have := HOL2.out; have := HOL3.out; have := HLS.out; have := HLN.out; (try simp only [List.length_append]); omega) (by unfold maxLen; have := HTL.out; have := HOL1.out; have := HOL2.out; have := HOL3.out; have := HLS.out; have := HLN.out; (try simp only [List.length_append]); omega) (fun v' w' hown hmv => hK' _ _ ?_); have hT := HT.out.append hown hmv; have q0 := hT.c0; have q1 := hT.c1; have q2 := hT.c2; have HT := Lib.hid hT; clear hown hmv hT) | (at_builtin; refine wpList_plain rfl fun K' hK' => ?_; refine wp_append_at (.tmp 34) (.tmp 37) 27 rfl 5 1 1 (.int .u8 0) Try.underlying27 info_u8 rfl (by decide) _ _ _ _ _ _ rfl rfl HT.out.own0 HO3.out (bv_oneCell _) (by have := HTL.out; have := HOL1.out; have := HOL2.out; have := HOL3.out; have := HLS.out; have := HLN.out; (try simp only [List.length_append]); omega) (by unfold maxLen; have := HTL.out; have := HOL1.out; have := HOL2.out; have := HOL3.out; have := HLS.out; have := HLN.out; (try simp only [List.length_append]); omega) (fun v' w' hown hmv => hK' _ _ ?_); have hT := HT.out.append hown hmv; have q0 := hT.c0; have q1 := hT.c1; have q2 := hT.c2; have HT := Lib.hid hT; clear hown hmv hT) | (at_builtin; refine wpList_plain rfl fun K' hK' => ?_; refine wp_append_at (.tmp 42) (.tmp 45) 27 rfl 5 1 1 (.int .u8 0) Try.underlying27 info_u8 rfl (by decide) _ _ _ _ _ _ rfl rfl HT.out.own0 HO3.out (bv_oneCell _) (by have := HTL.out; have := HOL1.out; have := HOL2.out; have := HOL3.out; have := HLS.out; have := HLN.out; (try simp only [List.length_append]); omega) (by unfold maxLen; have := HTL.out; have := HOL1.out; have := HOL2.out; have := HOL3.out; have := HLS.out; have := HLN.out; (try simp only [List.length_append]); omega) (fun v' w' hown hmv => hK' _ _ ?_); have hT := HT.out.append hown hmv; have q0 := hT.c0; have q1 := hT.c1; have q2 := hT.c2; have HT := Lib.hid hT; clear hown hmv hT))
          refine ⟨⟨k + 1, _, by omega, rfl, by go_num, ?_, HT.out.bel⟩, ?_⟩
          · have := HT.out.own
            rw [HMORE.out, HPO.out]
            simpa using this
          · simp [intOf]; omega
        · omega

      · obtain rfl : k = l.length := by omega
        have f0 := (HBL.out.cell (p := ⟨w.heap.size, 0, none⟩) HLT1.out).trans e0
        have f1 := (HBL.out.cell (p := ⟨w.heap.size, 1, none⟩) HLT1.out).trans e1
        go_wp2
        go_ret
        refine ⟨_, rfl, ?_, HBW.out.trans (HBL.out.mono HBW.out.size)⟩
        have hu := HU.out
        rw [List.take_length] at hu
        rw [HR.out]
        exact hu.mono_o HBW.out.size
end Go.Proofs.Ytpbmacbogmnokaa

/-
  What the document's Frame and Unframe do.
-/
namespace Go.Proofs.Ytpbmacbogmnokaa
open Go.RowKit

set_option maxRecDepth 100000 in
set_option maxHeartbeats 1000000 in
theorem rframe_any (w : World) (v : Value) (l : List UInt8) (h : RdB w v l) (hn : l.length < 1000000000000) :
    Calls Try.prog 25 #[v] w (RetB w.heap.size w (frL l)) := by
  obtain ⟨a, cap, rfl, hc1, hc2⟩ := h.form
  unfold maxLen at hc2
  by_cases hm : l.length ≤ 1048576
  · have g1 : ¬ (1048576 : Int) < (l.length : Int) := by omega
    have e1 : frL l = fixL (l.length : Int) 4 ++ fixL (sumL l : Int) 4 ++ l := by
      unfold frL
      rw [if_pos hm]
      rfl
    have HV := Lib.hid h
    rw [e1]
    clear h e1
    obtain ⟨f1, hf1⟩ : ∃ f1, f1 = fixL (l.length : Int) 4 := ⟨_, rfl⟩
    obtain ⟨f2, hf2⟩ : ∃ f2, f2 = fixL (sumL l : Int) 4 := ⟨_, rfl⟩
    have H1 := Lib.hid (fun w => (rfixed_yes (l.length : Int) 4 (by omega) w : Calls _ _ _ _ _))
    have H2 := Lib.hid (fun w => (rfixed_yes (sumL l : Int) 4 (by omega) w : Calls _ _ _ _ _))
    have hl1 : f1.length = 4 := by rw [hf1, fixL_length]
    have hl2 : f2.length = 4 := by rw [hf2, fixL_length]
    rw [← hf1] at H1
    rw [← hf2] at H2
    rw [← hf1, ← hf2]
    have HL1 := Lib.hid hl1
    have HL2 := Lib.hid hl2
    clear hf1 hf2 hl1 hl2
    go_enter Try.func25, Try.ntmps25
    go_wp2_with fail
    refine (H1.out _).mono ?_
    rintro e w1 ⟨u1, rfl, hu1, hb1⟩
    have HV1 := Lib.hid (HV.out.below hb1 (Nat.le_refl _))
    have HU1 := Lib.hid hu1
    have HB1 := Lib.hid hb1
    clear hu1 hb1
    go_wp2_with fail
    refine (rsum_any _ l _ HV1.out).mono ?_
    rintro e w2 ⟨rfl, rfl⟩
    go_wp2_with fail
    refine (H2.out _).mono ?_
    rintro e w3 ⟨u3, rfl, hu3, hb3⟩
    have HV3 := Lib.hid (HV1.out.below hb3 (Nat.le_refl _))
    have HU13 := Lib.hid (HU1.out.below hb3 (Nat.le_refl _))
    have HU3 := Lib.hid hu3
    have HB3 := Lib.hid (HB1.out.trans (hb3.mono HB1.out.size))
    have HS3 := Lib.hid HB1.out.size
    clear hu3 hb3
    go_wp2_with (at_builtin; refine wpList_append_bytes rfl (.tmp 9) (.tmp 12) 27 rfl w.heap.size 5 Try.underlying27 info_u8 _ _ f1 f2 rfl rfl HU13.out HU3.out.read HB3.out.size (by have := HL1.out; have := HL2.out; omega) ?_)
    intro v4 w4 ho4 hk4
    have HU4 := Lib.hid ho4
    have HB4 := Lib.hid (hk4 w.heap.size w (Nat.le_refl _) HB3.out)
    have HV4 := Lib.hid (HV.out.below HB4.out (Nat.le_refl _))
    have HL4 : Hid ((f1 ++ f2).length = 8) := Lib.hid (by rw [List.length_append, HL1.out, HL2.out])
    clear ho4 hk4
    go_wp2_with (at_builtin; refine wpList_append_bytes rfl (.tmp 14) (.tmp 15) 27 rfl w.heap.size 5 Try.underlying27 info_u8 _ _ (f1 ++ f2) l rfl rfl HU4.out HV4.out HB4.out.size (by have := HL4.out; omega) ?_)
    intro v5 w5 ho5 hk5
    have HU5 := Lib.hid ho5
    have HB5 := Lib.hid (hk5 w.heap.size w (Nat.le_refl _) HB4.out)
    clear ho5 hk5
    go_wp2
    go_ret
    exact ⟨_, rfl, by rw [List.append_assoc]; exact HU5.out, HB5.out⟩
  · have g1 : (1048576 : Int) < (l.length : Int) := by omega
    have e1 : frL l = [] := by unfold frL; rw [if_neg hm]
    rw [e1]
    clear h e1
    go_enter Try.func25, Try.ntmps25
    go_wp2
    go_ret
    exact ⟨_, rfl, OwnB.nil _ _ _, Below.refl _ _⟩

set_option maxRecDepth 100000 in
set_option maxHeartbeats 2000000 in
theorem runframe_any (w : World) (v : Value) (l : List UInt8) (at_ : Int) (h : RdB w v l) (hn : l.length < 1000000000000) (ha : -9223372036854775808 ≤ at_ ∧ at_ ≤ 9223372036854775807) :
    Calls Try.prog 19 #[v, .int .i64 at_] w (GetFr w l at_) := by
  obtain ⟨a, cap, rfl, hc1, hc2⟩ := h.form
  unfold maxLen at hc2
  have HV := Lib.hid h
  by_cases h1 : at_ < 0 ∨ (l.length : Int) - 4 < at_
  · have HG := Lib.hid (rgetFixed_out _ l at_ 4 (by omega) (by omega) w h)
    have HN : Hid (∀ p : Nat, at_ = p → frOk l p = false) := Lib.hid fun p hp => frOk_far (by omega)
    obtain ⟨a4, ha4⟩ : ∃ a4, IntKind.i64.wrap (at_ + 4) = a4 := ⟨_, rfl⟩
    by_cases h5 : a4 < 0 ∨ (l.length : Int) - 4 < a4
    · have HG2 := Lib.hid (rgetFixed_out _ l a4 4 (by omega) (by omega) w h)
      clear h1 h h5
      go_enter Try.func19, Try.ntmps19
      go_wp2_with fail
      refine HG.out.mono ?_
      rintro e w1 ⟨rfl, rfl⟩
      go_wp2_with fail
      (with_reducible refine HG2.out.mono ?_)
      rintro e w1 ⟨rfl, rfl⟩
      go_wp2
      go_ret3
      exact .inl ⟨HN.out, rfl, Below.refl _ _⟩
    · obtain ⟨q, hq⟩ : ∃ q : Nat, a4 = q := ⟨a4.toNat, by omega⟩
      have HG2 := Lib.hid (rgetFixed_yes _ l q 4 (by omega) (by omega) w h)
      rw [← hq, show ((4 : Nat) : Int) = 4 from rfl] at HG2
      generalize valL ((l.drop q).take 4) = ck at *
      clear h1 h h5 hq
      go_enter Try.func19, Try.ntmps19
      go_wp2_with fail
      refine HG.out.mono ?_
      rintro e w1 ⟨rfl, rfl⟩
      go_wp2_with fail
      (with_reducible refine HG2.out.mono ?_)
      rintro e w1 ⟨rfl, rfl⟩
      go_wp2
      go_ret3
      exact .inl ⟨HN.out, rfl, Below.refl _ _⟩
  obtain ⟨p, rfl⟩ : ∃ p : Nat, at_ = p := ⟨at_.toNat, by omega⟩
  have hp4 : p + 4 ≤ l.length := by omega
  have HG := Lib.hid (rgetFixed_yes _ l p 4 (by omega) hp4 w h)
  have hlt := frN_lt l p
  have hfn : valL ((l.drop p).take 4) = frN l p := rfl
  rw [hfn] at HG
  have hpe : ((p + 4 : Nat) : Int) = (p : Int) + 4 := by omega
  by_cases h6 : l.length < p + 8
  · have HG2 := Lib.hid (rgetFixed_out _ l ((p : Int) + 4) 4 (by omega) (by omega) w h)
    have HN' : Hid (∀ q : Nat, ((p : Int) = (q : Int)) → frOk l q = false) := Lib.hid fun q hq => frOk_far (by omega)
    rw [show ((4 : Nat) : Int) = 4 from rfl] at HG
    clear h hfn h1 hpe hlt
    generalize frN l p = n at *
    go_enter Try.func19, Try.ntmps19
    go_wp2_with (first | (go_at_call 31; first | ((with_reducible refine HG.out.mono ?_); rintro e w1 ⟨rfl, rfl⟩) | ((with_reducible refine HG2.out.mono ?_); rintro e w1 ⟨rfl, rfl⟩)))
    go_ret3
    exact .inl ⟨HN'.out, rfl, Below.refl _ _⟩
  by_cases h2 : 1048576 < frN l p ∨ l.length < p + 8 + frN l p
  · have HN : Hid (frOk l p = false) := Lib.hid (h2.elim (fun h => frOk_big h) fun h => frOk_far h)
    have HN' : Hid (∀ q : Nat, ((p : Int) = (q : Int)) → frOk l q = false) := Lib.hid fun q hq => by
      have : q = p := by omega
      rw [this]; exact HN.out
    have HG2 := Lib.hid (rgetFixed_yes _ l (p + 4) 4 (by omega) (by omega) w h)
    rw [hpe] at HG2
    rw [show ((4 : Nat) : Int) = 4 from rfl] at HG HG2
    clear h hfn h1 hpe hlt
    generalize valL ((l.drop (p + 4)).take 4) = ck at *
    generalize frN l p = n at *
    have g : (1048576 : Int) < (n : Int) ∨ ((n : Int) ≤ 1048576 ∧ (l.length : Int) - (p : Int) - 8 < (n : Int)) := by omega
    clear h2
    rcases g with g | ⟨g1, g2⟩
    all_goals
      go_enter Try.func19, Try.ntmps19
      go_wp2_with (first | (go_at_call 31; first | ((with_reducible refine HG.out.mono ?_); rintro e w1 ⟨rfl, rfl⟩) | ((with_reducible refine HG2.out.mono ?_); rintro e w1 ⟨rfl, rfl⟩)))
      go_ret3
      exact .inl ⟨HN'.out, rfl, Below.refl _ _⟩
  have h3 : frN l p ≤ 1048576 := by omega
  have h4 : p + 8 + frN l p ≤ l.length := by omega
  obtain ⟨b, off, cap', hv', _, _, _, _⟩ := h.cells (by intro e; subst e; simp at h4)
  cases hv'
  have hadd : (⟨b, off, none⟩ : Addr).add (p + 8) = ⟨b, off + (p + 8), none⟩ := by unfold Addr.add; split <;> simp_all
  have HG2 := Lib.hid (rgetFixed_yes _ l (p + 4) 4 (by omega) (by omega) w h)
  have HSUB := Lib.hid (sub_rd h (p + 8) (frN l p) (by omega) (by omega))
  rw [Option.map_some, hadd] at HSUB
  clear hadd
  have HP := Lib.hid (frP_length h4)
  have hck : ((valL ((l.drop (p + 4)).take 4) : Nat) : Int) < 4294967296 := by
    have := frN_lt l (p + 4)
    unfold frN at this
    omega
  rw [hpe] at HG2
  rw [show ((4 : Nat) : Int) = 4 from rfl] at HG HG2
  have hn1 : ((p : Int) + 8 + (frN l p : Int)).toNat = p + 8 + frN l p := by omega
  have hn2 : p + 8 + frN l p - (p + 8) = frN l p := by omega
  have hret : ((p : Int) + 8 + (frN l p : Int)) = ((p + 8 + frN l p : Nat) : Int) := by omega
  have HRET := Lib.hid hret
  have hps : ((p : Int) + 8).toNat = p + 8 := by omega
  have HOK : Hid (sumL (frP l p) = valL ((l.drop (p + 4)).take 4) → frOk l p = true) := Lib.hid fun h => frOk_mk h4 h3 h
  have HNO : Hid (¬ sumL (frP l p) = valL ((l.drop (p + 4)).take 4) → frOk l p = false) := Lib.hid fun h => frOk_sum h
  have hX : (l.drop (p + 8)).take (frN l p) = frP l p := rfl
  rw [hX] at HSUB
  clear h hfn h1 h2 hpe hret hX
  generalize hfe : frP l p = f at *
  generalize valL ((l.drop (p + 4)).take 4) = ck at *
  generalize hne : frN l p = n at *
  have HFE := Lib.hid hfe
  have HNE := Lib.hid hne
  clear hfe hne
  have g1 : ¬ (1048576 : Int) < (n : Int) := by omega
  have g2 : ¬ (l.length : Int) - (p : Int) - 8 < (n : Int) := by omega
  obtain ⟨sv, hsv⟩ : ∃ sv, sv = (if cap = p + 8 then Value.slice (some ⟨b, off, none⟩) n 0 else .slice (some ⟨b, off + (p + 8), none⟩) n (cap - (p + 8))) := ⟨_, rfl⟩
  have HAL : Hid (Below w.heap.size w (w.alloc (.cells #[] 5))) := Lib.hid ((Below.refl _ _).alloc (Nat.le_refl _) _)
  have HR : Hid (RdB (w.alloc (.cells #[] 5)) sv f) := Lib.hid (RdB.below (w := w) (by
    rw [hsv]
    split
    · rename_i hcp
      have hn0 : n = 0 := by omega
      have hf0 : f = [] := List.eq_nil_of_length_eq_zero (by rw [HP.out, hn0])
      rw [hf0, hn0]
      exact rdB_empty _ _ _ (Nat.zero_le _) fun h => by cases h
    · unfold RdB
      rw [HP.out]
      exact HSUB.out) HAL.out (Nat.le_refl _))
  have hsum : (sumL f : Int) < 4294967296 := by have := sumL_lt f; omega
  clear hsum hck hlt
  by_cases hcp : cap = p + 8
  · rw [if_pos hcp] at hsv
    subst hsv
    subst hcp
    by_cases hs : sumL f = ck
    · have HOK' := Lib.hid (HOK.out hs)
      have hsi : ((sumL f : Int) != (ck : Int)) = false := by rw [hs]; simp
      clear hs
      go_enter Try.func19, Try.ntmps19
      go_wp2_with (first | (go_at_call 31; first | ((with_reducible refine HG.out.mono ?_); rintro e w1 ⟨rfl, rfl⟩) | ((with_reducible refine HG2.out.mono ?_); rintro e w1 ⟨rfl, rfl⟩)) | (at_builtin; refine wpList_append_bytes rfl (.tmp 44) (.tmp 52) 27 rfl w.heap.size 5 Try.underlying27 info_u8 _ _ [] f rfl rfl (OwnB.made w _ _ (Nat.le_refl _)) HR.out HAL.out.size (by have := HP.out; simp; omega) ?_))
      intro u u1 ho1 hk1
      have HU := Lib.hid (show OwnB u1 w.heap.size 5 u f from ho1)
      have HB := Lib.hid (hk1 w.heap.size w (Nat.le_refl _) HAL.out)
      have HSM := Lib.hid (rsum_any u f u1 HU.out.read)
      clear ho1 hk1
      go_wp2_with (go_at_call 32; (with_reducible refine HSM.out.mono ?_); rintro e w2 ⟨rfl, rfl⟩)
      go_ret3
      refine .inr ⟨p, rfl, HOK'.out, u, ?_, ?_, HB.out⟩
      · rw [HNE.out, ← HRET.out]
        rfl
      · rw [HFE.out]
        exact HU.out
    · have HNO' : Hid (∀ q : Nat, ((p : Int) = (q : Int)) → frOk l q = false) := Lib.hid fun q hq => by
        have : q = p := by omega
        rw [this]; exact HNO.out hs
      have hsi : ((sumL f : Int) != (ck : Int)) = true := by simp; omega
      clear hs
      go_enter Try.func19, Try.ntmps19
      go_wp2_with (first | (go_at_call 31; first | ((with_reducible refine HG.out.mono ?_); rintro e w1 ⟨rfl, rfl⟩) | ((with_reducible refine HG2.out.mono ?_); rintro e w1 ⟨rfl, rfl⟩)) | (at_builtin; refine wpList_append_bytes rfl (.tmp 44) (.tmp 52) 27 rfl w.heap.size 5 Try.underlying27 info_u8 _ _ [] f rfl rfl (OwnB.made w _ _ (Nat.le_refl _)) HR.out HAL.out.size (by have := HP.out; simp; omega) ?_))
      intro u u1 ho1 hk1
      have HU := Lib.hid (show OwnB u1 w.heap.size 5 u f from ho1)
      have HB := Lib.hid (hk1 w.heap.size w (Nat.le_refl _) HAL.out)
      have HSM := Lib.hid (rsum_any u f u1 HU.out.read)
      clear ho1 hk1
      go_wp2_with (go_at_call 32; (with_reducible refine HSM.out.mono ?_); rintro e w2 ⟨rfl, rfl⟩)
      go_ret3
      exact .inl ⟨HNO'.out, rfl, HB.out⟩
  · rw [if_neg hcp] at hsv
    subst hsv
    by_cases hs : sumL f = ck
    · have HOK' := Lib.hid (HOK.out hs)
      have hsi : ((sumL f : Int) != (ck : Int)) = false := by rw [hs]; simp
      clear hs
      go_enter Try.func19, Try.ntmps19
      go_wp2_with (first | (go_at_call 31; first | ((with_reducible refine HG.out.mono ?_); rintro e w1 ⟨rfl, rfl⟩) | ((with_reducible refine HG2.out.mono ?_); rintro e w1 ⟨rfl, rfl⟩)) | (at_builtin; refine wpList_append_bytes rfl (.tmp 44) (.tmp 52) 27 rfl w.heap.size 5 Try.underlying27 info_u8 _ _ [] f rfl rfl (OwnB.made w _ _ (Nat.le_refl _)) HR.out HAL.out.size (by have := HP.out; simp; omega) ?_))
      intro u u1 ho1 hk1
      have HU := Lib.hid (show OwnB u1 w.heap.size 5 u f from ho1)
      have HB := Lib.hid (hk1 w.heap.size w (Nat.le_refl _) HAL.out)
      have HSM := Lib.hid (rsum_any u f u1 HU.out.read)
      clear ho1 hk1
      go_wp2_with (go_at_call 32; (with_reducible refine HSM.out.mono ?_); rintro e w2 ⟨rfl, rfl⟩)
      go_ret3
      refine .inr ⟨p, rfl, HOK'.out, u, ?_, ?_, HB.out⟩
      · rw [HNE.out, ← HRET.out]
        rfl
      · rw [HFE.out]
        exact HU.out
    · have HNO' : Hid (∀ q : Nat, ((p : Int) = (q : Int)) → frOk l q = false) := Lib.hid fun q hq => by
        have : q = p := by omega
        rw [this]; exact HNO.out hs
      have hsi : ((sumL f : Int) != (ck : Int)) = true := by simp; omega
      clear hs
      go_enter Try.func19, Try.ntmps19
      go_wp2_with (first | (go_at_call 31; first | ((with_reducible refine HG.out.mono ?_); rintro e w1 ⟨rfl, rfl⟩) | ((with_reducible refine HG2.out.mono ?_); rintro e w1 ⟨rfl, rfl⟩)) | (at_builtin; refine wpList_append_bytes rfl (.tmp 44) (.tmp 52) 27 rfl w.heap.size 5 Try.underlying27 info_u8 _ _ [] f rfl rfl (OwnB.made w _ _ (Nat.le_refl _)) HR.out HAL.out.size (by have := HP.out; simp; omega) ?_))
      intro u u1 ho1 hk1
      have HU := Lib.hid (show OwnB u1 w.heap.size 5 u f from ho1)
      have HB := Lib.hid (hk1 w.heap.size w (Nat.le_refl _) HAL.out)
      have HSM := Lib.hid (rsum_any u f u1 HU.out.read)
      clear ho1 hk1
      go_wp2_with (go_at_call 32; (with_reducible refine HSM.out.mono ?_); rintro e w2 ⟨rfl, rfl⟩)
      go_ret3
      exact .inl ⟨HNO'.out, rfl, HB.out⟩
end Go.Proofs.Ytpbmacbogmnokaa

/-
  What the document's Frame2 and ScanLog do.
-/
namespace Go.Proofs.Ytpbmacbogmnokaa
open Go.RowKit

theorem getBat_nil9 : getBat [] = none := by
  unfold getBat
  have : batAt [] = none := by
    unfold batAt getAt
    simp
  rw [this]

set_option maxRecDepth 100000 in
set_option maxHeartbeats 2000000 in
theorem rframe2_any (s : Int) (v : Value) (l : List Ope) (w : World) (hv : RdO w v l) (hn : l.length ≤ 100000) :
    Calls Try.prog 13 #[batV s v] w (RetB w.heap.size w (recB ⟨s, l⟩)) := by
  obtain ⟨a, cap, rfl, hc1, hc2⟩ := hv.form
  obtain ⟨wB, hwB⟩ : ∃ wB, wB = w.alloc (.cells #[.int .i64 s, .slice a l.length cap] 24) := ⟨_, rfl⟩
  have e0 : wB.cell? ⟨w.heap.size, 0, none⟩ = some (.int .i64 s) := by rw [hwB]; go_simp
  have e1 : wB.cell? ⟨w.heap.size, 1, none⟩ = some (.slice a l.length cap) := by rw [hwB]; go_simp
  have hB : Below w.heap.size w wB := by rw [hwB]; exact (Below.refl _ _).alloc (Nat.le_refl _) _
  have hlt : w.heap.size < wB.heap.size := by rw [hwB]; simp
  have hmay := rmayB_any s (.slice a l.length cap) l wB (hv.below hB (Nat.le_refl _)) hn
  have HWB := Lib.hid hwB
  have HB := Lib.hid hB
  have HM := Lib.hid hmay
  have HV := Lib.hid (hv.below hB (Nat.le_refl _))
  clear hB hv hwB hmay
  cases hm : mayBt s l with
  | false =>
    have HR : Hid (recB ⟨s, l⟩ = []) := Lib.hid (recB_not hm)
    rw [hm] at HM
    clear hm
    go_enter Try.func13, Try.ntmps13
    go_wp2_with (go_at_call 24; rw [← HWB.out]; refine HM.out.mono ?_; rintro e w1 ⟨rfl, hb1⟩; have HB1 := Lib.hid hb1; clear hb1)
    go_ret
    exact ⟨_, rfl, by rw [HR.out]; exact OwnB.nil _ _ _, HB.out.trans (HB1.out.mono HB.out.size)⟩
  | true =>
    have hlen := (putBat_len hm).2
    have HR : Hid (recB ⟨s, l⟩ = frL (putBat s l)) := Lib.hid (by unfold recB; simp only; rw [if_pos hm])
    have HN : Hid (l.length ≤ 100000) := Lib.hid hn
    rw [hm] at HM
    clear hm
    have HL : Hid ((putBat s l).length < 1000000000000) := Lib.hid (by omega)
    go_enter Try.func13, Try.ntmps13
    go_wp2_with (first | (go_at_call 24; rw [← HWB.out]; refine HM.out.mono ?_; rintro e w1 ⟨rfl, hb1⟩; have c0 := (hb1.cell (p := ⟨w.heap.size, 0, none⟩) hlt).trans e0; have c1 := (hb1.cell (p := ⟨w.heap.size, 1, none⟩) hlt).trans e1; have HV1 := Lib.hid (HV.out.below hb1 (Nat.le_refl _)); have HB1 := Lib.hid hb1; clear hb1) | (go_at_call 26; refine (rputB_any _ _ l _ HV1.out HN.out).mono ?_; rintro e w2 ⟨v2, rfl, ho2, hb2⟩; have HO2 := Lib.hid ho2.read; have HB2 := Lib.hid hb2; clear ho2 hb2) | (go_at_call 25; refine (rframe_any _ _ (putBat s l) HO2.out HL.out).mono ?_; rintro e w3 ⟨v3, rfl, ho3, hb3⟩; have HO3 := Lib.hid ho3; have HB3 := Lib.hid hb3; clear ho3 hb3))
    go_ret
    have hz := Nat.le_trans (Nat.le_trans HB.out.size HB1.out.size) HB2.out.size
    exact ⟨_, rfl, by rw [HR.out]; exact own_mono HO3.out hz, ((HB.out.trans (HB1.out.mono HB.out.size)).trans (HB2.out.mono (Nat.le_trans HB.out.size HB1.out.size))).trans (HB3.out.mono hz)⟩

set_option maxRecDepth 100000 in
set_option maxHeartbeats 8000000 in
theorem rscanlog_any (w : World) (v : Value) (l : List UInt8) (h : RdB w v l) (hn : l.length < 1000000000) :
    Calls Try.prog 10 #[v] w (ScanB w l) := by
  have HV := Lib.hid h
  clear h
  go_enter Try.func10, Try.ntmps10
  go_wp2
  go_loopw [4, 5] (fun u at_ wr => ∃ (k : Nat) (xs : List BV), at_ = .int .i64 k ∧ Hid (ScIn l k xs) ∧ Hid (OwnBs wr w.heap.size u xs) ∧ Hid (Below w.heap.size w wr)) (fun _ at_ _ => l.length - (intOf at_).toNat)
  case atStart => exact ⟨0, [], rfl, Lib.hid (ScIn.start l), Lib.hid (OwnBs.nil _ _), Lib.hid (Below.refl _ _)⟩
  case round =>
    obtain ⟨k, xs, rfl, HS, HO, HB⟩ := hrel
    have HG := Lib.hid (runframe_any wr _ l (k : Int) (HV.out.below HB.out (Nat.le_refl _)) (by omega) (by have := HS.out.le; omega))
    have HFEW := Lib.hid (show xs.length ≤ 1000000000 by have := HS.out.few; have := HS.out.le; omega)
    cases hok : frOk l k with
    | false =>
      have HST := Lib.hid (HS.out.so.stop (recAt_no hok))
      have HOK := Lib.hid hok
      clear hok
      go_wp2_with (first | (go_at_call 19; refine HG.out.mono ?_; rintro e w1 hg; obtain ⟨rfl, hb1⟩ := getFr_no hg HOK.out; have HB1 := Lib.hid hb1; clear hg hb1) | (go_at_call 20; refine (rgetB_any _ [] _ (Rd.nil _ _)).mono ?_; rintro e w2 ⟨he, hb2⟩; rw [getBat_nil9] at he; unfold AnsGet at he; subst he; have HB2 := Lib.hid (HB1.out.trans (hb2.mono HB1.out.size)); clear hb2))
      obtain ⟨wB, hwB⟩ : ∃ wB, wB = w2.alloc (.cells #[.int .i64 0, .slice none 0 0] 24) := ⟨_, rfl⟩
      rw [← hwB]
      have HBB : Hid (Below wr.heap.size wr wB) := Lib.hid (by rw [hwB]; exact HB2.out.alloc HB2.out.size _)
      clear hwB
      go_quiet (fail)
      go_wp2
      go_ret2
      unfold ScanB
      rw [HST.out]
      exact ⟨_, xs, rfl, rfl, HO.out.below (below_drewN HBB.out _) (Nat.le_refl _), HB.out.trans (Below.mono (below_drewN HBB.out _) HB.out.size)⟩
    | true =>
      have HOK := Lib.hid hok
      cases hgb : getBat (frP l k) with
      | none =>
        have HST := Lib.hid (HS.out.so.stop (recAt_none hok hgb))
        have HGB := Lib.hid hgb
        clear hok hgb
        go_wp2_with (first | (go_at_call 19; refine HG.out.mono ?_; rintro e w1 hg; obtain ⟨pa, pc, rfl, hp, hb1⟩ := getFr_yes hg HOK.out; have HP := Lib.hid hp.read; have HB1 := Lib.hid hb1; clear hg hp hb1) | (go_at_call 20; refine (rgetB_any _ (frP l k) _ HP.out).mono ?_; rintro e w2 ⟨he, hb2⟩; rw [HGB.out] at he; unfold AnsGet at he; subst he; have HB2 := Lib.hid (HB1.out.trans (hb2.mono HB1.out.size)); clear hb2))
        obtain ⟨wB, hwB⟩ : ∃ wB, wB = w2.alloc (.cells #[.int .i64 0, .slice none 0 0] 24) := ⟨_, rfl⟩
        rw [← hwB]
        have HBB : Hid (Below wr.heap.size wr wB) := Lib.hid (by rw [hwB]; exact HB2.out.alloc HB2.out.size _)
        clear hwB
        go_quiet (fail)
        go_wp2
        go_ret2
        unfold ScanB
        rw [HST.out]
        exact ⟨_, xs, rfl, rfl, HO.out.below (below_drewN HBB.out _) (Nat.le_refl _), HB.out.trans (Below.mono (below_drewN HBB.out _) HB.out.size)⟩
      | some x =>
        obtain ⟨s, ops⟩ := x
        have hr := recAt_mk hok hgb
        have HGB := Lib.hid hgb
        have HQ : Hid (k + 8 + frN l k ≤ l.length) := Lib.hid (frOk_le hok)
        obtain ⟨b, hb⟩ : ∃ b : Bat, b = ⟨(s : Int), ops⟩ := ⟨_, rfl⟩
        have hbs : (s : Int) = b.s := by rw [hb]
        have hbo : ops = b.ops := by rw [hb]
        have HGB : Hid (∀ B e w', AnsGet (getBat (frP l k)) B e w' → ∃ v, e = .returned (.tuple #[.agg #[.int .i64 b.s, v], .bool true]) ∧ OwnO w' B 43 v b.ops) := Lib.hid (by intro B e w' h; rw [hgb] at h; rw [hb]; exact h)
        rw [← hb] at hr
        have HR := Lib.hid hr
        have HELM := Lib.hid (may_fits (recAt_some hr).2.2.2.1)
        obtain ⟨q, hq⟩ : ∃ q, q = k + 8 + frN l k := ⟨_, rfl⟩
        cases hm : xs.length with
        | zero =>
          obtain rfl : xs = [] := List.eq_nil_of_length_eq_zero hm
          have HN := fun c => Lib.hid (HS.out.next (c := c) hr rfl)
          have HN := Lib.hid HN
          clear hok hgb hr hb hbs hbo hq hm
          have HOF := Lib.hid HO.out.form
          obtain ⟨ua, uc, rfl, _, huc⟩ := HOF.out
          go_wp2_with (first | (go_at_call 19; refine HG.out.mono ?_; rintro e w1 hg; obtain ⟨pa, pc, rfl, hp, hb1⟩ := getFr_yes hg HOK.out; have HP := Lib.hid hp.read; have HB1 := Lib.hid hb1; clear hg hp hb1) | (go_at_call 20; refine (rgetB_any _ (frP l k) _ HP.out).mono ?_; rintro e w2 ⟨he, hb2⟩; obtain ⟨cv, he, hc⟩ := HGB.out _ _ _ he; obtain ⟨ca, cc, rfl, _, _⟩ := hc.form; subst he; have HC2 := Lib.hid (own_mono hc HB1.out.size); have HB2 := Lib.hid (HB1.out.trans (hb2.mono HB1.out.size)); clear hc hb2))
          obtain ⟨wB, hwB⟩ : ∃ wB, wB = w2.alloc (.cells #[.int .i64 b.s, .slice ca b.ops.length cc] 24) := ⟨_, rfl⟩
          rw [← hwB]
          have HBB : Hid (Below wr.heap.size wr wB) := Lib.hid (by rw [hwB]; exact HB2.out.alloc HB2.out.size _)
          have d0 : wB.cell? ⟨w2.heap.size, 0, none⟩ = some (.int .i64 b.s) := by rw [hwB]; go_simp
          have d1 : wB.cell? ⟨w2.heap.size, 1, none⟩ = some (.slice ca b.ops.length cc) := by rw [hwB]; go_simp
          have hltB : w2.heap.size < wB.heap.size := by rw [hwB]; simp
          have HB2B : Hid (Below w2.heap.size w2 wB) := Lib.hid (by rw [hwB]; exact (Below.refl _ _).alloc (Nat.le_refl _) _)
          clear hwB
          go_quiet (fail)
          obtain ⟨wD, hwD⟩ : ∃ wD, wD = wB.drewN nq := ⟨_, rfl⟩
          rw [← hwD]
          have hBD : Below wB.heap.size wB wD := by rw [hwD]; exact below_drewN (Below.refl _ _) _
          have c0 := (hBD.cell (p := ⟨w2.heap.size, 0, none⟩) hltB).trans d0
          have c1 := (hBD.cell (p := ⟨w2.heap.size, 1, none⟩) hltB).trans d1
          have hbd : Below wr.heap.size wr (wD.alloc (.cells #[.int .i64 b.s, .slice ca b.ops.length cc] 24)) := (HBB.out.trans (hBD.mono HBB.out.size)).alloc (Nat.le_trans HBB.out.size hBD.size) _
          have hb2d : Below w2.heap.size w2 (wD.alloc (.cells #[.int .i64 b.s, .slice ca b.ops.length cc] 24)) := (HB2B.out.trans (hBD.mono (Nat.le_of_lt hltB))).alloc (Nat.le_trans (Nat.le_of_lt hltB) hBD.size) _
          obtain ⟨x1, x2⟩ := HO.out.push (x := (b, .slice ca b.ops.length cc)) hbd HB.out.size ⟨own_mono (OwnO.below HC2.out hb2d (Nat.le_refl _)) HB.out.size, HELM.out.1, HELM.out.2, fun q hq e => by have := (World.ownsRow.lt HC2.out q hq).1; have := (HO.out.lt (.inl e)).2; omega⟩
          have X1 := Lib.hid x1
          have X2 := Lib.hid x2
          clear x1 x2 hbd hb2d hBD hwD d0 d1
          go_wp2_with (at_builtin; refine wpList_plain rfl fun K' hK' => ?_; refine wp_append_at (.tmp 49) (.tmp 51) 28 rfl 24 2 32 (.agg #[.int .i64 0, .slice none 0 0]) Try.underlying28 info_bats rfl (by decide) _ _ _ 1 _ _ rfl rfl X1.out (one_bat _ _ _) (by simp [Value.oneCell']) ?n1 ?n2 ?k1)
          case n1 => have := HFEW.out; omega
          case n2 => have := HFEW.out; unfold maxLen; omega
          case k1 =>
            intro v' w' hown hmv
            refine hK' _ _ ?_
            obtain ⟨q1, q2⟩ := X2.out v' w' hown hmv
            have Q1 := Lib.hid q1
            have Q2 := Lib.hid q2
            clear q1 q2 hown hmv
            go_wp2
            go_roundw
            case rel => exact ⟨k + 8 + frN l k, [] ++ [(b, .slice ca b.ops.length cc)], rfl, HN.out _, Q1, Lib.hid (HB.out.trans Q2.out)⟩
            case measure => have := HQ.out; simp [intOf]; omega
        | succ m =>
          obtain ⟨ua, uc, rfl, _, huc⟩ := HO.out.form
          cases hgo : goesOn (xs.map (·.1)) b with
          | false =>
            have HST := Lib.hid (HS.out.so.stop2 hr hgo)
            clear hok hgb hr hb hbs hbo hq
            go_wp2_with (first | (go_at_call 19; refine HG.out.mono ?_; rintro e w1 hg; obtain ⟨pa, pc, rfl, hp, hb1⟩ := getFr_yes hg HOK.out; have HP := Lib.hid hp.read; have HB1 := Lib.hid hb1; clear hg hp hb1) | (go_at_call 20; refine (rgetB_any _ (frP l k) _ HP.out).mono ?_; rintro e w2 ⟨he, hb2⟩; obtain ⟨cv, he, hc⟩ := HGB.out _ _ _ he; obtain ⟨ca, cc, rfl, _, _⟩ := hc.form; subst he; have HC2 := Lib.hid (own_mono hc HB1.out.size); have HB2 := Lib.hid (HB1.out.trans (hb2.mono HB1.out.size)); clear hc hb2))
            obtain ⟨wB, hwB⟩ : ∃ wB, wB = w2.alloc (.cells #[.int .i64 b.s, .slice ca b.ops.length cc] 24) := ⟨_, rfl⟩
            rw [← hwB]
            have HBB : Hid (Below wr.heap.size wr wB) := Lib.hid (by rw [hwB]; exact HB2.out.alloc HB2.out.size _)
            have d0 : wB.cell? ⟨w2.heap.size, 0, none⟩ = some (.int .i64 b.s) := by rw [hwB]; go_simp
            have d1 : wB.cell? ⟨w2.heap.size, 1, none⟩ = some (.slice ca b.ops.length cc) := by rw [hwB]; go_simp
            have hltB : w2.heap.size < wB.heap.size := by rw [hwB]; simp
            clear hwB
            obtain ⟨bb, off, la, lc, rfl, hbb, _, g0, _, _, hwf⟩ := HO.out.read.at_ (i := m) (by omega)
            have hlow := HS.out.low _ (bvGet (show m < xs.length by omega))
            have i0 := (HBB.out.cell (p := ⟨bb, off + m * 2, none⟩) hbb).trans g0
            have hbbB : bb < wB.heap.size := Nat.lt_of_lt_of_le hbb HBB.out.size
            have k1 : (0 : Int) < (m : Int) + 1 := by omega
            have k2 : IntKind.i64.wrap (m : Int) = (m : Int) := IntWalk.i64_in _ (by have := HFEW.out; omega)
            have k4 : (m : Int) < (m : Int) + 1 := by omega
            have k5 : m < m + 1 := by omega
            have k6 : IntKind.i64.wrap ((xs.getD m BV.none_).1.s + 1) = (xs.getD m BV.none_).1.s + 1 := IntWalk.i64_in _ (by have : -9223372036854775808 ≤ (xs.getD m BV.none_).1.s ∧ (xs.getD m BV.none_).1.s ≤ 9223372036854775807 := by { simpa [Lit.wf, IntKind.min, IntKind.max, IntKind.signed, IntKind.bits] using hwf }; omega)
            have hgm := goesOn_map hm b
            have HM := Lib.hid hm
            clear g0 hwf hlow
            generalize (xs.getD m BV.none_).1.s = sl at *
            have hne : (b.s != sl + 1) = true := by unfold bne; rw [← hgm, hgo]; rfl
            rw [hm] at HO
            clear hm hgm hgo
            go_quiet (fail)
            go_wp2
            go_ret2
            unfold ScanB
            rw [HST.out]
            exact ⟨_, xs, rfl, rfl, HO.out.below (below_drewN HBB.out _) (Nat.le_refl _), HB.out.trans (Below.mono (below_drewN HBB.out _) HB.out.size)⟩
          | true =>
            have HN := fun c => Lib.hid (HS.out.next (c := c) hr hgo)
            have HN := Lib.hid HN
            clear hok hgb hr hb hbs hbo hq
            go_wp2_with (first | (go_at_call 19; refine HG.out.mono ?_; rintro e w1 hg; obtain ⟨pa, pc, rfl, hp, hb1⟩ := getFr_yes hg HOK.out; have HP := Lib.hid hp.read; have HB1 := Lib.hid hb1; clear hg hp hb1) | (go_at_call 20; refine (rgetB_any _ (frP l k) _ HP.out).mono ?_; rintro e w2 ⟨he, hb2⟩; obtain ⟨cv, he, hc⟩ := HGB.out _ _ _ he; obtain ⟨ca, cc, rfl, _, _⟩ := hc.form; subst he; have HC2 := Lib.hid (own_mono hc HB1.out.size); have HB2 := Lib.hid (HB1.out.trans (hb2.mono HB1.out.size)); clear hc hb2))
            obtain ⟨wB, hwB⟩ : ∃ wB, wB = w2.alloc (.cells #[.int .i64 b.s, .slice ca b.ops.length cc] 24) := ⟨_, rfl⟩
            rw [← hwB]
            have HBB : Hid (Below wr.heap.size wr wB) := Lib.hid (by rw [hwB]; exact HB2.out.alloc HB2.out.size _)
            have d0 : wB.cell? ⟨w2.heap.size, 0, none⟩ = some (.int .i64 b.s) := by rw [hwB]; go_simp
            have d1 : wB.cell? ⟨w2.heap.size, 1, none⟩ = some (.slice ca b.ops.length cc) := by rw [hwB]; go_simp
            have hltB : w2.heap.size < wB.heap.size := by rw [hwB]; simp
            have HB2B : Hid (Below w2.heap.size w2 wB) := Lib.hid (by rw [hwB]; exact (Below.refl _ _).alloc (Nat.le_refl _) _)
            clear hwB
            obtain ⟨bb, off, la, lc, rfl, hbb, _, g0, _, _, hwf⟩ := HO.out.read.at_ (i := m) (by omega)
            have hlow := HS.out.low _ (bvGet (show m < xs.length by omega))
            have i0 := (HBB.out.cell (p := ⟨bb, off + m * 2, none⟩) hbb).trans g0
            have hbbB : bb < wB.heap.size := Nat.lt_of_lt_of_le hbb HBB.out.size
            have k1 : (0 : Int) < (m : Int) + 1 := by omega
            have k2 : IntKind.i64.wrap (m : Int) = (m : Int) := IntWalk.i64_in _ (by have := HFEW.out; omega)
            have k4 : (m : Int) < (m : Int) + 1 := by omega
            have k5 : m < m + 1 := by omega
            have k6 : IntKind.i64.wrap ((xs.getD m BV.none_).1.s + 1) = (xs.getD m BV.none_).1.s + 1 := IntWalk.i64_in _ (by have : -9223372036854775808 ≤ (xs.getD m BV.none_).1.s ∧ (xs.getD m BV.none_).1.s ≤ 9223372036854775807 := by { simpa [Lit.wf, IntKind.min, IntKind.max, IntKind.signed, IntKind.bits] using hwf }; omega)
            have hgm := goesOn_map hm b
            have HM := Lib.hid hm
            clear g0 hwf hlow
            generalize (xs.getD m BV.none_).1.s = sl at *
            have hne : (b.s != sl + 1) = false := by unfold bne; rw [← hgm, hgo]; rfl
            rw [hm] at HO
            clear hm hgm hgo
            go_quiet (fail)
            obtain ⟨wD, hwD⟩ : ∃ wD, wD = wB.drewN nq := ⟨_, rfl⟩
            rw [← hwD]
            have hBD : Below wB.heap.size wB wD := by rw [hwD]; exact below_drewN (Below.refl _ _) _
            have c0 := (hBD.cell (p := ⟨w2.heap.size, 0, none⟩) hltB).trans d0
            have c1 := (hBD.cell (p := ⟨w2.heap.size, 1, none⟩) hltB).trans d1
            have hbd : Below wr.heap.size wr (wD.alloc (.cells #[.int .i64 b.s, .slice ca b.ops.length cc] 24)) := (HBB.out.trans (hBD.mono HBB.out.size)).alloc (Nat.le_trans HBB.out.size hBD.size) _
            have hb2d : Below w2.heap.size w2 (wD.alloc (.cells #[.int .i64 b.s, .slice ca b.ops.length cc] 24)) := (HB2B.out.trans (hBD.mono (Nat.le_of_lt hltB))).alloc (Nat.le_trans (Nat.le_of_lt hltB) hBD.size) _
            obtain ⟨x1, x2⟩ := HO.out.push (x := (b, .slice ca b.ops.length cc)) hbd HB.out.size ⟨own_mono (OwnO.below HC2.out hb2d (Nat.le_refl _)) HB.out.size, HELM.out.1, HELM.out.2, fun q hq e => by have := (World.ownsRow.lt HC2.out q hq).1; have := (HO.out.lt (.inl e)).2; omega⟩
            have X1 := Lib.hid x1
            have X2 := Lib.hid x2
            clear x1 x2 hbd hb2d hBD hwD d0 d1
            go_wp2_with (at_builtin; refine wpList_plain rfl fun K' hK' => ?_; refine wp_append_at (.tmp 49) (.tmp 51) 28 rfl 24 2 32 (.agg #[.int .i64 0, .slice none 0 0]) Try.underlying28 info_bats rfl (by decide) _ _ _ 1 _ _ rfl rfl X1.out (one_bat _ _ _) (by simp [Value.oneCell']) ?n1 ?n2 ?k1)
            case n1 => have := HFEW.out; have := HM.out; omega
            case n2 => have := HFEW.out; have := HM.out; unfold maxLen; omega
            case k1 =>
              intro v' w' hown hmv
              refine hK' _ _ ?_
              obtain ⟨q1, q2⟩ := X2.out v' w' hown hmv
              have Q1 := Lib.hid q1
              have Q2 := Lib.hid q2
              clear q1 q2 hown hmv
              go_wp2
              go_roundw
              case rel => exact ⟨k + 8 + frN l k, xs ++ [(b, .slice ca b.ops.length cc)], rfl, HN.out _, Q1, Lib.hid (HB.out.trans Q2.out)⟩
              case measure => have := HQ.out; simp [intOf]; omega
end Go.Proofs.Ytpbmacbogmnokaa

/-
  What replay.Join does, for any logs, behind any number.
-/
namespace Go.Proofs.Ytpbmacbogmnokaa
open Go.RowKit

/-- The call tells these batches, in memory of its own. -/
def RetBs (w : World) (bs : List Bat) (e : Ending) (w' : World) : Prop := ∃ v xs, e = .returned v ∧ xs.map (·.1) = bs ∧ OwnBs w' w.heap.size v xs ∧ Below w.heap.size w w'

/-- What holds in its loops: what was taken, and the rest. -/
structure JoIn (all : List Bat) (acc : List BV) (rest : List Bat) (last : Int) : Prop where
  so : all = acc.map (·.1) ++ joinF rest last
  few : acc.length + rest.length ≤ 1000000000
  wf : -9223372036854775808 ≤ last ∧ last ≤ 9223372036854775807
  may : AllMay rest

theorem JoIn.old {all : List Bat} {acc : List BV} {b : Bat} {rest : List Bat} {last : Int} (h : JoIn all acc (b :: rest) last) (h1 : b.s ≤ last) : JoIn all acc rest last :=
  ⟨by rw [h.so, joinF_old h1], by have := h.few; simp at this; omega, h.wf, fun c hc => h.may c (by simp [hc])⟩

theorem JoIn.far {all : List Bat} {acc : List BV} {b : Bat} {rest : List Bat} {last : Int} (h : JoIn all acc (b :: rest) last) (h1 : ¬ b.s ≤ last) (h2 : last + 1 < b.s) : acc.map (·.1) = all := by
  rw [h.so, joinF_far h1 h2, List.append_nil]

theorem JoIn.next {all : List Bat} {acc : List BV} {b : Bat} {rest : List Bat} {last : Int} (h : JoIn all acc (b :: rest) last) (h1 : ¬ b.s ≤ last) (h2 : ¬ last + 1 < b.s) (c : Value) : JoIn all (acc ++ [(b, c)]) rest b.s := by
  have hm := mayBt_true (h.may b (by simp))
  refine ⟨by rw [h.so, joinF_next h1 h2]; simp, by have := h.few; simp at this ⊢; omega, by omega, fun c hc => h.may c (by simp [hc])⟩

theorem JoIn.done {all : List Bat} {acc : List BV} {last : Int} (h : JoIn all acc [] last) : acc.map (·.1) = all := by
  have := h.so
  simp only [joinF, List.append_nil] at this
  exact this.symm

theorem AllMay.app {a b : List Bat} (ha : AllMay a) (hb : AllMay b) : AllMay (a ++ b) := fun c hc => by
  rw [List.mem_append] at hc
  exact hc.elim (ha c) (hb c)

theorem logs_may (ls : List (List UInt8)) : AllMay (ls.flatMap fun l => (logL l).1) := fun b hb => by
  obtain ⟨l, _, hl⟩ := List.mem_flatMap.1 hb
  exact logL_may l b hl

theorem logs_drop {ls : List (List UInt8)} {i : Nat} {l : List UInt8} (h : ls[i]? = some l) : (ls.drop i).flatMap (fun l => (logL l).1) = (logL l).1 ++ (ls.drop (i + 1)).flatMap (fun l => (logL l).1) := by
  obtain ⟨hi, rfl⟩ := List.getElem?_eq_some_iff.1 h
  rw [List.drop_eq_getElem_cons hi, List.flatMap_cons]

theorem bats_drop {us : List BV} {k : Nat} (hk : k < us.length) : (us.map (·.1)).drop k = (us.getD k BV.none_).1 :: (us.map (·.1)).drop (k + 1) := by
  rw [List.drop_eq_getElem_cons (by simpa using hk)]
  simp [List.getD, List.getElem?_eq_getElem hk]

set_option maxRecDepth 100000 in
set_option maxHeartbeats 4000000 in
theorem rpjoin_any (w : World) (v : Value) (ls : List (List UInt8)) (last0 : Int) (h : RdLL w v ls) (hl : ∀ l ∈ ls, l.length < 1000000000) (hn : (ls.flatMap fun l => (logL l).1).length ≤ 1000000000)
    (hwf : -9223372036854775808 ≤ last0 ∧ last0 ≤ 9223372036854775807) :
    Calls Try.prog 14 #[v, .int .i64 last0] w (RetBs w (joinL ls last0)) := by
  obtain ⟨a, cap, rfl, _, hc2⟩ := h.form
  unfold maxLen at hc2
  have HV := Lib.hid h
  have HL := Lib.hid hl
  have HJ0 : Hid (JoIn (joinL ls last0) [] ((ls.drop 0).flatMap fun l => (logL l).1) last0) := Lib.hid ⟨rfl, by simpa using hn, hwf, logs_may _⟩
  generalize joinL ls last0 = all at *
  clear h hl hn hwf
  go_enter Try.func14, Try.ntmps14
  go_wp2
  go_step3
  go_wp2
  go_step3
  go_wp2
  go_loopw [1, 5, 14] (fun la u i wr => ∃ (n : Nat) (last : Int) (acc : List BV), n ≤ ls.length ∧ i = .int .i64 n ∧ la = .int .i64 last ∧ Hid (JoIn all acc ((ls.drop n).flatMap fun l => (logL l).1) last) ∧ Hid (OwnBs wr w.heap.size u acc) ∧ Hid (Below w.heap.size w wr)) (fun _ _ i _ => ls.length - (intOf i).toNat)
  case atStart => exact ⟨0, last0, [], Nat.zero_le _, rfl, rfl, HJ0, Lib.hid (OwnBs.nil _ _), Lib.hid (Below.refl _ _)⟩
  case round =>
    obtain ⟨n, last, acc, hn, rfl, rfl, HJ, HO, HB⟩ := hrel
    by_cases hlt : n < ls.length
    · obtain ⟨l, hl⟩ : ∃ l, ls[n]? = some l := ⟨_, List.getElem?_eq_getElem hlt⟩
      obtain ⟨b, o, pa, pc, rfl, hcell, hrd, hb⟩ := (HV.out.below HB.out (Nat.le_refl _)).at_ hl
      have hj := HJ.out
      rw [logs_drop hl] at hj
      have HSC := Lib.hid (rpscan_any wr _ l hrd (HL.out l (List.mem_of_getElem? hl)))
      have HJ1 := Lib.hid hj
      have HOF := Lib.hid HO.out.form
      clear hj hl HJ
      obtain ⟨tail, htail⟩ : ∃ tail, tail = (ls.drop (n + 1)).flatMap (fun l => (logL l).1) := ⟨_, rfl⟩
      rw [← htail] at HJ1
      have HT := Lib.hid htail
      clear htail
      go_wp2
      go_step3
      go_wp2_with (go_at_call 9; refine HSC.out.mono ?_; rintro e w1 ⟨tv, us, rfl, hus, hown, hb1⟩; obtain ⟨ta, tc, rfl, _, htc⟩ := hown.form; have HUS := Lib.hid hus; have HOWN := Lib.hid hown; have HB1 := Lib.hid hb1; clear hus hown hb1)
      go_step3
      go_wp2
      have HOu := Lib.hid (HO.out.below HB1.out (Nat.le_refl _))
      have HUo := Lib.hid (HOWN.out.base HB.out.size)
      have HAP : Hid (∀ k, inBs (.slice ta us.length tc) us k → u5.ownBlock ≠ some k) := Lib.hid fun k hk e => by have := (HOWN.out.lt hk).1; have := (HO.out.lt (.inl e)).2; omega
      have HBo := Lib.hid (HB.out.trans (HB1.out.mono HB.out.size))
      rw [← HUS.out] at HJ1
      clear hcell hrd hb HB1 HOWN HSC HO HB
      unfold maxLen at htc
      go_loopw [1, 5, 25] (fun la u i w2 => ∃ (k : Nat) (last : Int) (acc : List BV), k ≤ us.length ∧ i = .int .i64 k ∧ la = .int .i64 last ∧ Hid (JoIn all acc ((us.map (·.1)).drop k ++ tail) last) ∧ Hid (OwnBs w2 w.heap.size u acc) ∧ Hid (OwnBs w2 w.heap.size (.slice ta us.length tc) us) ∧ Hid (∀ k, inBs (.slice ta us.length tc) us k → u.ownBlock ≠ some k) ∧ Hid (Below w.heap.size w w2)) (fun _ _ i _ => us.length - (intOf i).toNat)
      case atStart => exact ⟨0, last, acc, Nat.zero_le _, rfl, rfl, HJ1, HOu, HUo, HAP, HBo⟩
      case round =>
        clear HJ1 HOu HUo HAP HBo HOF
        obtain ⟨k, last, acc, hk, rfl, rfl, HJ, HO, HU, HA, HB⟩ := hrel
        by_cases hku : k < us.length
        · obtain ⟨b2, o2, xa, xc, rfl, hb2, hx2, c0, c1, hxr, hxw⟩ := HU.out.read.at_ hku
          have hel := HU.out.2 _ (bvGet hku)
          have hin : ∀ q, (us.getD k BV.none_).2.ownBlock = some q → inBs (.slice (some ⟨b2, o2, none⟩) us.length tc) us q := fun q hq => .inr ⟨_, bvGet hku, hq⟩
          have hj := HJ.out
          rw [bats_drop hku, List.cons_append] at hj
          have HJ1 := Lib.hid hj
          have hwf := hj.wf
          have hm := mayBt_true (hj.may _ List.mem_cons_self)
          obtain ⟨ua, uc, rfl, _, huc⟩ := HO.out.form
          unfold maxLen at huc
          have HEL : Hid (ElemB wr w.heap.size (.slice ua acc.length uc) (us.getD k BV.none_)) := Lib.hid ⟨hel.1, hel.2.1, hel.2.2.1, fun q hq => HA.out q (hin q hq)⟩
          clear hj hel hin hxr HJ
          generalize us.getD k BV.none_ = x at *
          obtain ⟨⟨s, ops⟩, xv⟩ := x
          simp only at *
          subst hx2
          have ew : IntKind.i64.wrap ((k : Int) + 1) = (k : Int) + 1 := IntWalk.i64_in _ (by omega)
          by_cases h1 : s ≤ last
          · have HN := Lib.hid (HJ1.out.old h1)
            clear HJ1
            go_wp2
            refine ⟨⟨k + 1, last, acc, by omega, by go_num, rfl, HN, Lib.hid (HO.out.below ((Below.refl _ _).alloc (Nat.le_refl _) _) (Nat.le_refl _)), Lib.hid (HU.out.below ((Below.refl _ _).alloc (Nat.le_refl _) _) (Nat.le_refl _)), HA, Lib.hid (HB.out.alloc HB.out.size _)⟩, ?_⟩
            simp [intOf]; omega
          · have el : IntKind.i64.wrap (last + 1) = last + 1 := IntWalk.i64_in _ (by omega)
            by_cases h2 : last + 1 < s
            · have HD := Lib.hid (HJ1.out.far h1 h2)
              clear HJ1
              go_wp2
              rw [Exit.noGoto_ret]
              go_ret
              exact ⟨_, acc, rfl, HD.out, HO.out.below ((Below.refl _ _).alloc (Nat.le_refl _) _) (Nat.le_refl _), HB.out.alloc HB.out.size _⟩
            · have HN := fun c => Lib.hid (HJ1.out.next h1 h2 c)
              have HN := Lib.hid HN
              have HFW : Hid (acc.length ≤ 1000000000) := Lib.hid (by have := HJ1.out.few; omega)
              clear HJ1
              have hb1 : Below wr.heap.size wr ((wr.alloc (.cells #[.int .i64 s, .slice xa ops.length xc] 24)).alloc (.cells #[.int .i64 s, .slice xa ops.length xc] 24)) := ((Below.refl _ _).alloc (Nat.le_refl _) _).alloc (by simp) _
              obtain ⟨x1, x2⟩ := HO.out.push (x := (⟨s, ops⟩, .slice xa ops.length xc)) hb1 HB.out.size ⟨OwnO.below HEL.out.1 hb1 (Nat.le_refl _), HEL.out.2⟩
              have XR : Hid (Rd ((wr.alloc (.cells #[.int .i64 s, .slice xa ops.length xc] 24)).alloc (.cells #[.int .i64 s, .slice xa ops.length xc] 24)) 2 (.slice (some ⟨wr.heap.size + 1, 0, none⟩) 1 1) 1 [.int .i64 s, .slice xa ops.length xc]) := Lib.hid (by have h := one_bat (wr.alloc (.cells #[.int .i64 s, .slice xa ops.length xc] 24)) s (.slice xa ops.length xc); rwa [show (wr.alloc (.cells #[.int .i64 s, .slice xa ops.length xc] 24)).heap.size = wr.heap.size + 1 by simp] at h)
              have X1 := Lib.hid x1
              have X2 := Lib.hid x2
              have HU1 := Lib.hid (HU.out.below hb1 (Nat.le_refl _))
              have HB1 := Lib.hid hb1
              clear x1 x2 hb1
              go_wp2_with (at_builtin; refine wpList_plain rfl fun K' hK' => ?_; refine wp_append_at (.tmp 40) (.tmp 42) 28 rfl 24 2 32 (.agg #[.int .i64 0, .slice none 0 0]) Try.underlying28 info_bats rfl (by decide) _ _ _ 1 _ _ rfl rfl X1.out XR.out (by simp [Value.oneCell']) ?n1 ?n2 ?k1)
              case n1 => have := HFW.out; omega
              case n2 => have := HFW.out; unfold maxLen; omega
              case k1 =>
                intro v' w' hown hmv
                refine hK' _ _ ?_
                obtain ⟨q1, q2⟩ := X2.out v' w' hown hmv
                obtain ⟨q3, q4⟩ := HU1.out.stays HA.out hmv
                have hbx : w'.cell? ⟨wr.heap.size, 0, none⟩ = some (.int .i64 s) := by
                  have hk0 := (hmv.kept (R := fun q => q = wr.heap.size) fun q hq => ⟨by rw [hq]; simp; omega, fun e => by have := (HO.out.lt (.inl e)).2; omega⟩).cell (p := ⟨wr.heap.size, 0, none⟩) rfl
                  rw [hk0]
                  go_simp
                have Q1 := Lib.hid q1
                have Q2 := Lib.hid q2
                have Q3 := Lib.hid q3
                have Q4 := Lib.hid q4
                clear q1 q2 q3 q4 hown hmv
                go_wp2
                refine ⟨⟨k + 1, s, _, by omega, by go_num, rfl, HN.out _, Q1, Q3, Q4, Lib.hid (HB.out.trans Q2.out)⟩, ?_⟩
                simp [intOf]; omega
        · obtain rfl : k = us.length := by omega
          have hj := HJ.out
          rw [List.drop_of_length_le (by simp), List.nil_append, HT.out] at hj
          have HJ1 := Lib.hid hj
          clear hj HJ
          go_wp2
          rw [Exit.noGoto_normal]
          go_wp2
          refine ⟨⟨n + 1, last, acc, by omega, by go_num, rfl, HJ1, HO, HB⟩, ?_⟩
          simp [intOf]; omega
    · obtain rfl : n = ls.length := by omega
      have hj := HJ.out
      rw [List.drop_length, List.flatMap_nil] at hj
      have HD := Lib.hid hj.done
      clear hj HJ
      go_wp2
      rw [Exit.noGoto_ret]
      go_ret
      exact ⟨_, acc, rfl, HD.out, HO.out, HB.out⟩
end Go.Proofs.Ytpbmacbogmnokaa

/-
  What the document's JoinLogs does, for any logs, behind any number.
-/
namespace Go.Proofs.Ytpbmacbogmnokaa
open Go.RowKit

set_option maxRecDepth 100000 in
set_option maxHeartbeats 4000000 in
theorem rjoinlogs_any (w : World) (v : Value) (ls : List (List UInt8)) (last0 : Int) (h : RdLL w v ls) (hl : ∀ l ∈ ls, l.length < 1000000000) (hn : (ls.flatMap fun l => (logL l).1).length ≤ 1000000000)
    (hwf : -9223372036854775808 ≤ last0 ∧ last0 ≤ 9223372036854775807) :
    Calls Try.prog 15 #[v, .int .i64 last0] w (RetBs w (joinL ls last0)) := by
  obtain ⟨a, cap, rfl, _, hc2⟩ := h.form
  unfold maxLen at hc2
  have HV := Lib.hid h
  have HL := Lib.hid hl
  have HJ0 : Hid (JoIn (joinL ls last0) [] ((ls.drop 0).flatMap fun l => (logL l).1) last0) := Lib.hid ⟨rfl, by simpa using hn, hwf, logs_may _⟩
  generalize joinL ls last0 = all at *
  clear h hl hn hwf
  go_enter Try.func15, Try.ntmps15
  go_wp2
  go_loopw [1, 5, 6] (fun la u i wr => ∃ (n : Nat) (last : Int) (acc : List BV), n ≤ ls.length ∧ i = .int .i64 n ∧ la = .int .i64 last ∧ Hid (JoIn all acc ((ls.drop n).flatMap fun l => (logL l).1) last) ∧ Hid (OwnBs wr w.heap.size u acc) ∧ Hid (Below w.heap.size w wr)) (fun _ _ i _ => ls.length - (intOf i).toNat)
  case atStart => exact ⟨0, last0, [], Nat.zero_le _, rfl, rfl, HJ0, Lib.hid (OwnBs.nil _ _), Lib.hid (Below.refl _ _)⟩
  case round =>
    obtain ⟨n, last, acc, hn, rfl, rfl, HJ, HO, HB⟩ := hrel
    by_cases hlt : n < ls.length
    · obtain ⟨l, hl⟩ : ∃ l, ls[n]? = some l := ⟨_, List.getElem?_eq_getElem hlt⟩
      obtain ⟨b, o, pa, pc, rfl, hcell, hrd, hb⟩ := (HV.out.below HB.out (Nat.le_refl _)).at_ hl
      have hj := HJ.out
      rw [logs_drop hl] at hj
      have HSC := Lib.hid (rscanlog_any wr _ l hrd (HL.out l (List.mem_of_getElem? hl)))
      have HJ1 := Lib.hid hj
      clear hj hl HJ
      obtain ⟨tail, htail⟩ : ∃ tail, tail = (ls.drop (n + 1)).flatMap (fun l => (logL l).1) := ⟨_, rfl⟩
      rw [← htail] at HJ1
      have HT := Lib.hid htail
      clear htail
      go_wp2_with (go_at_call 10; refine HSC.out.mono ?_; rintro e w1 ⟨tv, us, rfl, hus, hown, hb1⟩; obtain ⟨ta, tc, rfl, _, htc⟩ := hown.form; have HUS := Lib.hid hus; have HOWN := Lib.hid hown; have HB1 := Lib.hid hb1; clear hus hown hb1)
      have HOu := Lib.hid (HO.out.below HB1.out (Nat.le_refl _))
      have HUo := Lib.hid (HOWN.out.base HB.out.size)
      have HAP : Hid (∀ k, inBs (.slice ta us.length tc) us k → u5.ownBlock ≠ some k) := Lib.hid fun k hk e => by have := (HOWN.out.lt hk).1; have := (HO.out.lt (.inl e)).2; omega
      have HBo := Lib.hid (HB.out.trans (HB1.out.mono HB.out.size))
      rw [← HUS.out] at HJ1
      clear hcell hrd hb HB1 HOWN HSC HO HB
      unfold maxLen at htc
      go_loopw [1, 5, 9] (fun la u i w2 => ∃ (k : Nat) (last : Int) (acc : List BV), k ≤ us.length ∧ i = .int .i64 k ∧ la = .int .i64 last ∧ Hid (JoIn all acc ((us.map (·.1)).drop k ++ tail) last) ∧ Hid (OwnBs w2 w.heap.size u acc) ∧ Hid (OwnBs w2 w.heap.size (.slice ta us.length tc) us) ∧ Hid (∀ k, inBs (.slice ta us.length tc) us k → u.ownBlock ≠ some k) ∧ Hid (Below w.heap.size w w2)) (fun _ _ i _ => us.length - (intOf i).toNat)
      case atStart => exact ⟨0, last, acc, Nat.zero_le _, rfl, rfl, HJ1, HOu, HUo, HAP, HBo⟩
      case round =>
        clear HJ1 HOu HUo HAP HBo
        obtain ⟨k, last, acc, hk, rfl, rfl, HJ, HO, HU, HA, HB⟩ := hrel
        by_cases hku : k < us.length
        · obtain ⟨b2, o2, xa, xc, rfl, hb2, hx2, c0, c1, hxr, hxw⟩ := HU.out.read.at_ hku
          have hel := HU.out.2 _ (bvGet hku)
          have hin : ∀ q, (us.getD k BV.none_).2.ownBlock = some q → inBs (.slice (some ⟨b2, o2, none⟩) us.length tc) us q := fun q hq => .inr ⟨_, bvGet hku, hq⟩
          have hj := HJ.out
          rw [bats_drop hku, List.cons_append] at hj
          have HJ1 := Lib.hid hj
          have hwf := hj.wf
          have hm := mayBt_true (hj.may _ List.mem_cons_self)
          have hbk : inBs (.slice (some ⟨b2, o2, none⟩) us.length tc) us b2 := .inl rfl
          have HBK := Lib.hid (HA.out _ hbk)
          obtain ⟨ua, uc, rfl, _, huc⟩ := HO.out.form
          unfold maxLen at huc
          have HEL : Hid (ElemB wr w.heap.size (.slice ua acc.length uc) (us.getD k BV.none_)) := Lib.hid ⟨hel.1, hel.2.1, hel.2.2.1, fun q hq => HA.out q (hin q hq)⟩
          clear hj hel hin hxr HJ hbk
          generalize us.getD k BV.none_ = x at *
          obtain ⟨⟨s, ops⟩, xv⟩ := x
          simp only at *
          subst hx2
          have ew : IntKind.i64.wrap ((k : Int) + 1) = (k : Int) + 1 := IntWalk.i64_in _ (by omega)
          by_cases h1 : s ≤ last
          · have HN := Lib.hid (HJ1.out.old h1)
            clear HJ1
            go_wp2
            refine ⟨⟨k + 1, last, acc, by omega, by go_num, rfl, HN, HO, HU, HA, HB⟩, ?_⟩
            simp [intOf]; omega
          · have el : IntKind.i64.wrap (s - 1) = s - 1 := IntWalk.i64_in _ (by omega)
            by_cases h2 : last + 1 < s
            · have h3 : last < s - 1 := by omega
              have HD := Lib.hid (HJ1.out.far h1 h2)
              clear HJ1
              go_wp2
              go_ret
              exact ⟨_, acc, rfl, HD.out, HO.out, HB.out⟩
            · have h3 : ¬ last < s - 1 := by omega
              have HN := fun c => Lib.hid (HJ1.out.next h1 h2 c)
              have HN := Lib.hid HN
              have HFW : Hid (acc.length ≤ 1000000000) := Lib.hid (by have := HJ1.out.few; omega)
              clear HJ1
              have hb1 : Below wr.heap.size wr (wr.alloc (.cells #[.int .i64 s, .slice xa ops.length xc] 24)) := (Below.refl _ _).alloc (Nat.le_refl _) _
              obtain ⟨x1, x2⟩ := HO.out.push (x := (⟨s, ops⟩, .slice xa ops.length xc)) hb1 HB.out.size ⟨OwnO.below HEL.out.1 hb1 (Nat.le_refl _), HEL.out.2⟩
              have X1 := Lib.hid x1
              have X2 := Lib.hid x2
              have HU1 := Lib.hid (HU.out.below hb1 (Nat.le_refl _))
              clear x1 x2 hb1
              go_wp2_with (at_builtin; refine wpList_plain rfl fun K' hK' => ?_; refine wp_append_at (.tmp 46) (.tmp 51) 28 rfl 24 2 32 (.agg #[.int .i64 0, .slice none 0 0]) Try.underlying28 info_bats rfl (by decide) _ _ _ 1 _ _ rfl rfl X1.out (one_bat _ _ _) (by simp [Value.oneCell']) ?n1 ?n2 ?k1)
              case n1 => have := HFW.out; omega
              case n2 => have := HFW.out; unfold maxLen; omega
              case k1 =>
                intro v' w' hown hmv
                refine hK' _ _ ?_
                obtain ⟨q1, q2⟩ := X2.out v' w' hown hmv
                obtain ⟨q3, q4⟩ := HU1.out.stays HA.out hmv
                have g0 : w'.cell? ⟨b2, o2 + k * 2, none⟩ = some (.int .i64 s) := by
                  have hk0 := (hmv.kept (R := fun q => q = b2) fun q hq => ⟨by rw [hq]; simp; omega, by rw [hq]; exact HBK.out⟩).cell (p := ⟨b2, o2 + k * 2, none⟩) rfl
                  rw [hk0]
                  go_simp
                have Q1 := Lib.hid q1
                have Q2 := Lib.hid q2
                have Q3 := Lib.hid q3
                have Q4 := Lib.hid q4
                clear q1 q2 q3 q4 hown hmv
                go_wp2
                refine ⟨⟨k + 1, s, _, by omega, by go_num, rfl, HN.out _, Q1, Q3, Q4, Lib.hid (HB.out.trans Q2.out)⟩, ?_⟩
                simp [intOf]; omega
        · obtain rfl : k = us.length := by omega
          have hj := HJ.out
          rw [List.drop_of_length_le (by simp), List.nil_append, HT.out] at hj
          have HJ1 := Lib.hid hj
          clear hj HJ
          go_wp2
          refine ⟨⟨n + 1, last, acc, by omega, by go_num, rfl, HJ1, HO, HB⟩, ?_⟩
          simp [intOf]; omega
    · obtain rfl : n = ls.length := by omega
      have hj := HJ.out
      rw [List.drop_length, List.flatMap_nil] at hj
      have HD := Lib.hid hj.done
      clear hj HJ
      go_wp2
      go_ret
      exact ⟨_, acc, rfl, HD.out, HO.out, HB.out⟩
end Go.Proofs.Ytpbmacbogmnokaa

/-
  What the document's SameBatch does, for every two batches.
-/
namespace Go.Proofs.Ytpbmacbogmnokaa
open Go.RowKit

set_option maxRecDepth 100000 in
set_option maxHeartbeats 1000000 in
theorem rsameB_any (s1 s2 : Int) (v1 v2 : Value) (l1 l2 : List Ope) (w : World) (h1 : RdO w v1 l1) (h2 : RdO w v2 l2) :
    Calls Try.prog 21 #[batV s1 v1, batV s2 v2] w fun e w' => e = .returned (.bool (s1 == s2 && sameL l1 l2)) ∧ Below w.heap.size w w' := by
  obtain ⟨a1, c1, rfl, _, _⟩ := h1.form
  obtain ⟨a2, c2, rfl, _, _⟩ := h2.form
  have hb : Below w.heap.size w ((w.alloc (.cells #[.int .i64 s1, .slice a1 l1.length c1] 24)).alloc (.cells #[.int .i64 s2, .slice a2 l2.length c2] 24)) := ((Below.refl _ _).alloc (Nat.le_refl _) _).alloc (by simp) _
  have hs := rsame_any _ _ l1 l2 _ (h1.below hb (Nat.le_refl _)) (h2.below hb (Nat.le_refl _))
  have HS := Lib.hid hs
  have HB := Lib.hid hb
  clear hs hb h1 h2
  by_cases he : s1 = s2
  · subst he
    have h3 : (s1 == s1) = true := by simp
    rw [h3]
    clear h3
    go_enter Try.func21, Try.ntmps21
    go_wp2_with (go_at_call 35; refine HS.out.mono ?_; rintro e w3 ⟨rfl, hb3⟩; have HB3 := Lib.hid (HB.out.trans (hb3.mono (by simp; omega))); clear hb3)
    go_ret
    exact ⟨by simp, HB3.out⟩
  · have h3 : (s1 == s2) = false := by simpa using he
    rw [h3]
    clear he
    go_enter Try.func21, Try.ntmps21
    go_wp2
    go_ret
    exact ⟨by simp, HB.out⟩
end Go.Proofs.Ytpbmacbogmnokaa

/-
  What the document's Batches does, for two lists of batches that are one.
-/
namespace Go.Proofs.Ytpbmacbogmnokaa
open Go.RowKit

theorem bats_len {xs ys : List BV} (h : xs.map (·.1) = ys.map (·.1)) : ys.length = xs.length := by
  have := congrArg List.length h
  simpa using this.symm

theorem bats_at {xs ys : List BV} (h : xs.map (·.1) = ys.map (·.1)) (i : Nat) : (ys.getD i BV.none_).1 = (xs.getD i BV.none_).1 := by
  have e : ∀ l : List BV, (l.getD i BV.none_).1 = (l.map (·.1)).getD i default := by
    intro l
    simp only [List.getD, List.getElem?_map]
    cases l[i]? <;> rfl
  rw [e, e, h]

set_option maxRecDepth 100000 in
set_option maxHeartbeats 4000000 in
theorem rbats_any (va vb : Value) (xs ys : List BV) (w : World) (ha : RdBs w va xs) (hb : RdBs w vb ys) (he : xs.map (·.1) = ys.map (·.1)) :
    Calls Try.prog 11 #[va, vb] w fun e w' => e = .returned (.bool true) ∧ Below w.heap.size w w' := by
  obtain ⟨pa, ca, rfl, _, hca⟩ := ha.form
  obtain ⟨pb, cb, rfl, _, hcb⟩ := hb.form
  unfold maxLen at hca hcb
  have HE := Lib.hid he
  have HA := Lib.hid ha
  have hlen := bats_len he
  rw [hlen] at hb
  have HB := Lib.hid hb
  have HLEN := Lib.hid hlen
  rw [hlen]
  clear ha hb he hlen hcb
  go_enter Try.func11, Try.ntmps11
  go_wp2
  go_loopw [5] (fun i wr => ∃ k : Nat, k ≤ xs.length ∧ i = .int .i64 k ∧ Hid (Below w.heap.size w wr)) (fun i _ => xs.length - (intOf i).toNat)
  case atStart => exact ⟨0, Nat.zero_le _, rfl, Lib.hid (Below.refl _ _)⟩
  case round =>
    obtain ⟨k, hk, rfl, HW⟩ := hrel
    by_cases hlt : k < xs.length
    · have hb0 := HB.out.below HW.out (Nat.le_refl _)
      obtain ⟨b1, o1, p1, q1, rfl, hb1, _, a0, a1, hr1, _⟩ := (HA.out.below HW.out (Nat.le_refl _)).at_ hlt
      rw [← HLEN.out] at hb0
      obtain ⟨b2, o2, p2, q2, rfl, hb2, _, b0, b1, hr2, _⟩ := hb0.at_ (i := k) (by rw [HLEN.out]; exact hlt)
      rw [bats_at HE.out] at b0 b1 hr2
      have ew : IntKind.i64.wrap ((k : Int) + 1) = (k : Int) + 1 := IntWalk.i64_in _ (by omega)
      clear hb0
      generalize (xs.getD k BV.none_).1 = x at *
      obtain ⟨s, ops⟩ := x
      simp only at *
      have HR1 : Hid (RdO wr.drew _ ops) := Lib.hid (hr1.below (Below.refl _ _).drew (Nat.le_refl _))
      have HR2 : Hid (RdO wr.drew _ ops) := Lib.hid (hr2.below (Below.refl _ _).drew (Nat.le_refl _))
      have HT : Hid ((s == s && sameL ops ops) = true) := Lib.hid (by rw [sameL_refl]; simp)
      clear hr1 hr2
      go_upto_region 6 with (fail)
      refine wp_region_plan [(true, 0), (true, 1), (true, 2), (true, 3), (true, 4), (true, 5), (true, 6), (true, 7), (false, 8), (true, 9)] (by kernel_rfl) (by kernel_rfl) (by kernel_rfl) (by kernel_rfl) (by kernel_rfl) ?_
      simp only [planO, List.drop_succ_cons, List.drop_zero]
      refine PlanO.take (v := ?v0) (by kernel_rfl) ?y0 ?r0
      case y0 => (intro wz hz; go_simp; try with_reducible rfl)
      (try simp only [Act.put, List.setIfInBounds_toArray, List.set_cons_zero, List.set_cons_succ])
      refine PlanO.take (v := ?v1) (by kernel_rfl) ?y1 ?r1
      case y1 => (intro wz hz; go_simp; try with_reducible rfl)
      (try simp only [Act.put, List.setIfInBounds_toArray, List.set_cons_zero, List.set_cons_succ])
      refine PlanO.take (v := ?v2) (by kernel_rfl) ?y2 ?r2
      case y2 => (intro wz hz; go_simp; try with_reducible rfl)
      (try simp only [Act.put, List.setIfInBounds_toArray, List.set_cons_zero, List.set_cons_succ])
      refine PlanO.take (v := ?v3) (by kernel_rfl) ?y3 ?r3
      case y3 => (intro wz hz; have c0 := Ext.at_ hz a0; have c1 := Ext.at_ hz a1; go_simp; try with_reducible rfl)
      (try simp only [Act.put, List.setIfInBounds_toArray, List.set_cons_zero, List.set_cons_succ])
      refine PlanO.take (v := ?v4) (by kernel_rfl) ?y4 ?r4
      case y4 => (intro wz hz; go_simp; try with_reducible rfl)
      (try simp only [Act.put, List.setIfInBounds_toArray, List.set_cons_zero, List.set_cons_succ])
      refine PlanO.take (v := ?v5) (by kernel_rfl) ?y5 ?r5
      case y5 => (intro wz hz; go_simp; try with_reducible rfl)
      (try simp only [Act.put, List.setIfInBounds_toArray, List.set_cons_zero, List.set_cons_succ])
      refine PlanO.take (v := ?v6) (by kernel_rfl) ?y6 ?r6
      case y6 => (intro wz hz; go_simp; try with_reducible rfl)
      (try simp only [Act.put, List.setIfInBounds_toArray, List.set_cons_zero, List.set_cons_succ])
      refine PlanO.take (v := ?v7) (by kernel_rfl) ?y7 ?r7
      case y7 => (intro wz hz; have c2 := Ext.at_ hz b0; have c3 := Ext.at_ hz b1; go_simp; try with_reducible rfl)
      (try simp only [Act.put, List.setIfInBounds_toArray, List.set_cons_zero, List.set_cons_succ])
      refine PlanO.exec (fun K hK => ?_)
      go_simp
      go_at_call 21
      (with_reducible refine (rsameB_any s s _ _ ops ops _ HR1.out HR2.out).mono ?_)
      rintro e w1 ⟨rfl, he1⟩
      rw [HT.out]
      have HE1 : Hid (Ext wr.drew w1) := Lib.hid he1
      go_wp2_with fail
      refine hK.out _ _ he1 ?_
      clear hK K
      (try simp only [Act.put, List.setIfInBounds_toArray, List.set_cons_zero, List.set_cons_succ])
      refine PlanO.take (v := ?v9) (by kernel_rfl) ?y9 ?r9
      case y9 => (intro wz hz; go_simp; try with_reducible rfl)
      (try simp only [Act.put, List.setIfInBounds_toArray, List.set_cons_zero, List.set_cons_succ])
      refine PlanO.done (NoPanic.normal ?_)
      go_wp2
      refine ⟨⟨k + 1, by omega, by go_num, Lib.hid (HW.out.trans (Below.mono (below_draw HE1.out) HW.out.size))⟩, ?_⟩
      simp [intOf]; omega
    · obtain rfl : k = xs.length := by omega
      go_wp2
      go_ret
      exact ⟨rfl, HW.out⟩
end Go.Proofs.Ytpbmacbogmnokaa

/-
  The example of layer 9.
-/
namespace Go.Proofs.Ytpbmacbogmnokaa
open Go.RowKit

def ex9 : Ope := ⟨2, ⟨#[97]⟩, ⟨#[]⟩⟩

theorem ex9_may : mayBt 1 [ex9] = true := by
  refine mayBt_mk9 (by decide) (by decide) ?_ ?_
  · exact mayOs_mk (by decide) (by decide) fun o ho => by
      obtain rfl := List.mem_singleton.1 ho
      decide
  · rfl

theorem ex9_len : (recB ⟨1, [ex9]⟩).length = 13 := by
  rw [recB_length (b := ⟨1, [ex9]⟩) ex9_may]
  have h1 : putL 1 = [1] := putL_lt 1 (by decide)
  have h2 : putL 2 = [2] := putL_lt 2 (by decide)
  unfold putBat
  rw [if_pos ex9_may]
  have h3 : (⟨#[97]⟩ : ByteArray).size = 1 := rfl
  unfold putBody putOpL putT ex9
  simp [h1, h2, h3]

theorem log_nil : logL [] = ([], 0) := (LogSo.start []).stop (recAt_no (none_nil []))

theorem ex9_fits : ∀ o ∈ [ex9], o.fits := (may_fits ex9_may).1

set_option maxRecDepth 100000 in
set_option maxHeartbeats 1000000 in
theorem awake9_any (w : World) : Calls Try.prog 8 #[] w fun e w' => e = .returned (.bool true) ∧ Below w.heap.size w w' := by
  have hs := rpscan_any w (.slice none 0 0) [] (Rd.nil _ _) (by simp)
  have hp : ∀ W : World, Calls Try.prog 12 #[batV 1 (.slice (some ⟨W.heap.size, 0, none⟩) 1 1)] (W.alloc (.cells #[.int .i64 2, .string ⟨#[97]⟩, .string ⟨#[]⟩] 43)) (RetB (W.alloc (.cells #[.int .i64 2, .string ⟨#[97]⟩, .string ⟨#[]⟩] 43)).heap.size (W.alloc (.cells #[.int .i64 2, .string ⟨#[97]⟩, .string ⟨#[]⟩] 43)) (recB ⟨1, [ex9]⟩)) :=
    fun W => rpput_any 1 (.slice (some ⟨W.heap.size, 0, none⟩) 1 1) [ex9] _ ⟨one_op W ex9, ex9_fits⟩ (by simp)
  have HL := Lib.hid ex9_len
  generalize recB ⟨1, [ex9]⟩ = l at hp HL
  have HS := Lib.hid hs
  have HP := Lib.hid hp
  have HN := Lib.hid log_nil
  clear hs hp
  go_enter Try.func8, Try.ntmps8
  go_wp2_with (first | (go_at_call 9; refine HS.out.mono ?_; rintro e w1 ⟨v1, xs, rfl, hx, ho1, hb1⟩; rw [HN.out] at hx ⊢; obtain rfl : xs = [] := List.map_eq_nil_iff.1 hx; obtain ⟨a1, c1, rfl, _, _⟩ := ho1.form; have HB1 := Lib.hid hb1; clear ho1 hb1 hx) | (go_at_call 12; refine (HP.out _).mono ?_; rintro e w2 ⟨v2, rfl, ho2, hb2⟩; obtain ⟨a2, c2, rfl, hc2, _⟩ := ho2.read.form; have HB2 := Lib.hid ((HB1.out.alloc HB1.out.size _).trans (hb2.mono (by have := HB1.out.size; simp; omega))); have hl := HL.out; rw [hl]; clear ho2 hb2 hc2 HL hl))
  go_ret
  exact ⟨by simp, HB2.out⟩
end Go.Proofs.Ytpbmacbogmnokaa

/-
  The walk of ReplayAll: what any bytes tell as a log, and any logs together, behind any batch, is the document's.
-/
namespace Go.Proofs.Ytpbmacbogmnokaa
open Go.RowKit

theorem flat_few {ls : List (List UInt8)} {m : Nat} (h : ∀ l ∈ ls, l.length ≤ m) : (ls.flatMap fun l => (logL l).1).length ≤ m * ls.length := by
  induction ls with
  | nil => simp
  | cons a r ih =>
    rw [List.flatMap_cons, List.length_append, List.length_cons, Nat.mul_succ]
    have h1 := logL_few a
    have h2 := h a (by simp)
    have h3 := ih fun l hl => h l (by simp [hl])
    omega

set_option maxRecDepth 100000 in
set_option maxHeartbeats 8000000 in
set_option linter.unusedSimpArgs false in
theorem replayAll_walk (s : Int) (z : Value) (l : List Ope) (v : Value) (ls : List (List UInt8)) (last : Int) (W : World) (_ : (Lit.int .i64 s).wf = true) (hz : RdO W z l) (hv : RdLL W v ls) (hl : (Lit.int .i64 last).wf = true) :
    Calls Try.prog 3 #[batV s z, v, .int .i64 last] W fun e w' => e = .returned (.bool true) ∧ Below W.heap.size W w' := by
  have hlb : -9223372036854775808 ≤ last ∧ last ≤ 9223372036854775807 := by simpa [Lit.wf, IntKind.min, IntKind.max, IntKind.signed, IntKind.bits] using hl
  have HLW := Lib.hid hlb
  clear hl hlb
  have h9 := Lib.hid (fun w => awake9_any w)
  obtain ⟨za, zc, rfl, _, hzc⟩ := hz.form
  obtain ⟨va, vc, rfl, _, hvc⟩ := hv.form
  unfold maxLen at hzc hvc
  obtain ⟨wB, hwB⟩ : ∃ wB, wB = W.alloc (.cells #[.int .i64 s, .slice za l.length zc] 24) := ⟨_, rfl⟩
  have hB : Below W.heap.size W wB := by rw [hwB]; exact (Below.refl _ _).alloc (Nat.le_refl _) _
  have a0 : wB.cell? ⟨W.heap.size, 0, none⟩ = some (.int .i64 s) := by rw [hwB]; go_simp
  have a1 : wB.cell? ⟨W.heap.size, 1, none⟩ = some (.slice za l.length zc) := by rw [hwB]; go_simp
  have hlt : W.heap.size < wB.heap.size := by rw [hwB]; simp
  have HZ0 := Lib.hid (hz.below hB (Nat.le_refl _))
  have HV0 := Lib.hid (hv.below hB (Nat.le_refl _))
  have HWB := Lib.hid hwB
  have HB := Lib.hid hB
  clear hz hv hB hwB
  by_cases g1 : (8 : Int) < (ls.length : Int)
  · clear a0 a1 hlt
    go_enter Try.func3, Try.ntmps3
    go_wp2_with (go_at_call 8; rw [← HWB.out]; refine (h9.out _).mono ?_; rintro e w1 ⟨rfl, hb1⟩)
    go_ret
    exact ⟨rfl, HB.out.trans (Below.mono hb1 HB.out.size)⟩
  by_cases g2 : (60 : Int) < (l.length : Int)
  · go_enter Try.func3, Try.ntmps3
    go_wp2_with (go_at_call 8; rw [← HWB.out]; refine (h9.out _).mono ?_; rintro e w1 ⟨rfl, hb1⟩)
    go_ret
    exact ⟨rfl, HB.out.trans (Below.mono hb1 HB.out.size)⟩
  have HLN : Hid (l.length ≤ 100000) := Lib.hid (by omega)
  have HL8 : Hid (ls.length ≤ 8) := Lib.hid (by omega)
  go_enter Try.func3, Try.ntmps3
  go_wp2
  rw [← HWB.out]
  go_loopw [7] (fun i wr => ∃ n : Nat, n ≤ ls.length ∧ i = .int .i64 n ∧ Hid (∀ j l, j < n → ls[j]? = some l → l.length ≤ 3000) ∧ Hid (Below wB.heap.size wB wr)) (fun i _ => ls.length - (intOf i).toNat)
  case atStart => exact ⟨0, Nat.zero_le _, rfl, Lib.hid (fun j l h => by omega), Lib.hid (Below.refl _ _)⟩
  case round =>
    obtain ⟨n, hn, rfl, HS, HW⟩ := hrel
    by_cases hln : n < ls.length
    · obtain ⟨lg, hlg⟩ : ∃ lg, ls[n]? = some lg := ⟨_, List.getElem?_eq_getElem hln⟩
      have hv1 := HV0.out.below HW.out (Nat.le_refl _)
      obtain ⟨b, o, pa, pc, rfl, hcell, hrd, hb⟩ := hv1.at_ hlg
      have HRD := Lib.hid hrd
      have wn : IntKind.i64.wrap ((n : Int) + 1) = (n : Int) + 1 := IntWalk.i64_in _ (by omega)
      by_cases g3 : (3000 : Int) < (lg.length : Int)
      · clear hv1 hrd
        go_wp2_with (go_at_call 8; refine (h9.out _).mono ?_; rintro e w1 ⟨rfl, hb1⟩; have HB1 := Lib.hid hb1; clear hb1)
        go_ret
        exact ⟨rfl, HB.out.trans (Below.mono (HW.out.trans (Below.mono HB1.out HW.out.size)) HB.out.size)⟩
      · have HSN : Hid (∀ j l, j < n + 1 → ls[j]? = some l → l.length ≤ 3000) := Lib.hid fun j l hj hl => by
          rcases Nat.lt_or_ge j n with h | h
          · exact HS.out j l h hl
          · obtain rfl : j = n := by omega
            rw [hlg] at hl
            cases hl
            omega
        have HLG : Hid (lg.length < 1000000000) := Lib.hid (by omega)
        have h00 : (((logL lg).2 : Int) != ((logL lg).2 : Int)) = false := by simp
        have HCC : Hid (∀ w', Below wr.heap.size wr w' → w'.cell? ⟨b, o + n, none⟩ = some (.slice pa lg.length pc)) := Lib.hid fun w' h => (h.cell (p := ⟨b, o + n, none⟩) hb).trans hcell
        clear hv1 hrd hlg
        go_wp2_with (first | (go_at_call 9; refine (rpscan_any _ _ lg HRD.out HLG.out).mono ?_; rintro e w1 ⟨sv, xs, rfl, hxs, hown, hb1⟩; obtain ⟨sa, sc, rfl, _, _⟩ := hown.form; have hc1 := HCC.out _ hb1; have HX1 := Lib.hid hxs; have HS1 := Lib.hid hown.read; have HR1 := Lib.hid (HRD.out.below hb1 (Nat.le_refl _)); have HW1 := Lib.hid (HW.out.trans (Below.mono hb1 HW.out.size)); have hby : b < w1.heap.size := Nat.lt_of_lt_of_le hb hb1.size; clear hxs hown hb1) | (go_at_call 10; refine (rscanlog_any _ _ lg HR1.out HLG.out).mono ?_; rintro e w2 ⟨kv, ys, rfl, hys, hown, hb2⟩; obtain ⟨ka, kc, rfl, _, _⟩ := hown.form; have HX2 := Lib.hid (HX1.out.trans hys.symm); have HS2 := Lib.hid (HS1.out.below hb2 (Nat.le_refl _)); have HK2 := Lib.hid hown.read; have HW2 := Lib.hid (HW1.out.trans (Below.mono hb2 HW1.out.size)); clear hys hown hb2) | (go_at_call 11; refine (rbats_any _ _ xs ys _ HS2.out HK2.out HX2.out).mono ?_; rintro e w3 ⟨rfl, hb3⟩; have HW3 := Lib.hid (HW2.out.trans (Below.mono hb3 HW2.out.size)); clear hb3))
        refine ⟨⟨n + 1, by omega, by go_num, HSN, HW3⟩, ?_⟩
        simp [intOf]; omega
    · obtain rfl : n = ls.length := by omega
      have hlm : ∀ l ∈ ls, l.length ≤ 3000 := fun l hl => by
        obtain ⟨j, hj⟩ := List.mem_iff_getElem?.1 hl
        exact HS.out j l (List.getElem?_eq_some_iff.1 hj).1 hj
      have HLM : Hid (∀ l ∈ ls, l.length < 1000000000) := Lib.hid fun l hl => by have := hlm l hl; omega
      have HCN : Hid ((ls.flatMap fun l => (logL l).1).length ≤ 1000000000) := Lib.hid (by have := flat_few hlm; have := HL8.out; omega)
      clear hlm HS
      go_upto_region 12 with (fail)
      obtain ⟨w6, hw6⟩ : ∃ w6, w6 = wr.drew := ⟨_, rfl⟩
      have hb6 : Below wB.heap.size wB w6 := by rw [hw6]; exact HW.out.drew
      have e0 := (hb6.cell (p := ⟨W.heap.size, 0, none⟩) hlt).trans a0
      have e1 := (hb6.cell (p := ⟨W.heap.size, 1, none⟩) hlt).trans a1
      have HZ := Lib.hid (HZ0.out.below hb6 (Nat.le_refl _))
      have HV := Lib.hid (HV0.out.below hb6 (Nat.le_refl _))
      have HW6 := Lib.hid hw6
      have HBB := Lib.hid (HB.out.trans (Below.mono hb6 HB.out.size))
      have HPUT := Lib.hid (rpput_any s _ l w6 HZ.out HLN.out)
      generalize hfr : recB ⟨s, l⟩ = fr at *
      have HFR := Lib.hid hfr
      clear hfr hb6 hw6 a0 a1
      refine wp_region_plan [(true, 0), (true, 3), (false, 1), (true, 2), (false, 4), (true, 5), (true, 6), (true, 7), (true, 8), (true, 9), (true, 11), (true, 12), (false, 10), (false, 13), (false, 14), (true, 15), (true, 16), (false, 17), (true, 18), (true, 19)] (by kernel_rfl) (by kernel_rfl) (by kernel_rfl) (by kernel_rfl) (by kernel_rfl) ?_
      simp only [planO, List.drop_succ_cons, List.drop_zero]
      rw [← HW6.out]
      refine PlanO.take (v := ?v0) (by kernel_rfl) ?y0 ?r0
      case y0 => (intro wz hz; have c0 := Ext.at_ hz e0; have c1 := Ext.at_ hz e1; go_simp; try with_reducible rfl)
      (try simp only [Act.put, List.setIfInBounds_toArray, List.set_cons_zero, List.set_cons_succ])
      refine PlanO.take (v := ?v3) (by kernel_rfl) ?y3 ?r3
      case y3 => (intro wz hz; have c0 := Ext.at_ hz e0; have c1 := Ext.at_ hz e1; go_simp; try with_reducible rfl)
      (try simp only [Act.put, List.setIfInBounds_toArray, List.set_cons_zero, List.set_cons_succ])
      refine PlanO.exec (fun K hK => ?_)
      go_simp
      go_at_call 12
      (with_reducible refine HPUT.out.mono ?_)
      rintro e v1 ⟨p1, rfl, ho1, hb1⟩
      have HO1 := Lib.hid ho1.read
      have HE1 : Hid (Ext w6 v1) := Lib.hid hb1
      clear ho1
      obtain ⟨pa1, pc1, rfl⟩ := rdB_form' HO1.out
      go_wp2_with fail
      refine hK.out _ _ HE1.out ?_
      clear hK K
      (try simp only [Act.put, List.setIfInBounds_toArray, List.set_cons_zero, List.set_cons_succ])
      refine PlanO.take (v := .string (strB fr)) (by kernel_rfl) ?y2 ?r2
      case y2 => (intro wz hz; have q1 := rdB_convert (P := Try.prog) (RdB.below HO1.out hz (Nat.le_refl _)) 27 5 9 Try.underlying27 Try.underlying5 Try.underlying9; go_simp)
      (try simp only [Act.put, List.setIfInBounds_toArray, List.set_cons_zero, List.set_cons_succ])
      refine PlanO.exec (fun K hK => ?_)
      go_simp
      go_at_call 13
      refine (rframe2_any s _ l v1 (HZ.out.below HE1.out (Nat.le_refl _)) HLN.out).mono ?_
      rw [HFR.out]
      rintro e v2 ⟨p2, rfl, ho2, hb2⟩
      have HO2 := Lib.hid ho2.read
      have HE2 : Hid (Ext w6 v2) := Lib.hid (Ext.trans HE1.out hb2)
      clear ho2
      obtain ⟨pa2, pc2, rfl⟩ := rdB_form' HO2.out
      go_wp2_with fail
      refine hK.out _ _ hb2 ?_
      clear hK K
      (try simp only [Act.put, List.setIfInBounds_toArray, List.set_cons_zero, List.set_cons_succ])
      refine PlanO.take (v := .string (strB fr)) (by kernel_rfl) ?y5 ?r5
      case y5 => (intro wz hz; have q2 := rdB_convert (P := Try.prog) (RdB.below HO2.out hz (Nat.le_refl _)) 27 5 9 Try.underlying27 Try.underlying5 Try.underlying9; go_simp)
      (try simp only [Act.put, List.setIfInBounds_toArray, List.set_cons_zero, List.set_cons_succ])
      refine PlanO.take (v := .bool true) (by kernel_rfl) ?y6 ?r6
      case y6 => (intro wz hz; go_simp)
      (try simp only [Act.put, List.setIfInBounds_toArray, List.set_cons_zero, List.set_cons_succ])
      refine PlanO.take (v := .bool true) (by kernel_rfl) ?y7 ?r7
      case y7 => (intro wz hz; go_simp)
      (try simp only [Act.put, List.setIfInBounds_toArray, List.set_cons_zero, List.set_cons_succ])
      refine PlanO.take (v := ?v8) (by kernel_rfl) ?y8 ?r8
      case y8 => (intro wz hz; go_simp; try with_reducible rfl)
      (try simp only [Act.put, List.setIfInBounds_toArray, List.set_cons_zero, List.set_cons_succ])
      refine PlanO.take (v := ?v9) (by kernel_rfl) ?y9 ?r9
      case y9 => (intro wz hz; go_simp; try with_reducible rfl)
      (try simp only [Act.put, List.setIfInBounds_toArray, List.set_cons_zero, List.set_cons_succ])
      refine PlanO.take (v := ?v11) (by kernel_rfl) ?y11 ?r11
      case y11 => (intro wz hz; go_simp; try with_reducible rfl)
      (try simp only [Act.put, List.setIfInBounds_toArray, List.set_cons_zero, List.set_cons_succ])
      refine PlanO.take (v := ?v12) (by kernel_rfl) ?y12 ?r12
      case y12 => (intro wz hz; go_simp; try with_reducible rfl)
      (try simp only [Act.put, List.setIfInBounds_toArray, List.set_cons_zero, List.set_cons_succ])
      refine PlanO.exec (fun K hK => ?_)
      go_simp
      go_at_call 14
      refine (rpjoin_any v2 _ ls last (HV.out.below HE2.out (Nat.le_refl _)) HLM.out HCN.out HLW.out).mono ?_
      rintro e v3 ⟨j1, x1, rfl, hx1, hj1, hb3⟩
      have HX1 := Lib.hid hx1
      have HJ1 := Lib.hid hj1.read
      have HE3 : Hid (Ext w6 v3) := Lib.hid (Ext.trans HE2.out hb3)
      clear hx1 hj1
      obtain ⟨ja1, jc1, rfl, _, _⟩ := HJ1.out.form
      go_wp2_with fail
      refine hK.out _ _ hb3 ?_
      clear hK K
      (try simp only [Act.put, List.setIfInBounds_toArray, List.set_cons_zero, List.set_cons_succ])
      refine PlanO.exec (fun K hK => ?_)
      go_simp
      go_at_call 15
      refine (rjoinlogs_any v3 _ ls last (HV.out.below HE3.out (Nat.le_refl _)) HLM.out HCN.out HLW.out).mono ?_
      rintro e v4 ⟨j2, x2, rfl, hx2, hj2, hb4⟩
      have HX2 := Lib.hid (HX1.out.trans hx2.symm)
      have HJ3 := Lib.hid (HJ1.out.below hb4 (Nat.le_refl _))
      have HJ2 := Lib.hid hj2.read
      have HE4 : Hid (Ext w6 v4) := Lib.hid (Ext.trans HE3.out hb4)
      clear hx2 hj2
      obtain ⟨ja2, jc2, rfl, _, _⟩ := HJ2.out.form
      go_wp2_with fail
      refine hK.out _ _ hb4 ?_
      clear hK K
      (try simp only [Act.put, List.setIfInBounds_toArray, List.set_cons_zero, List.set_cons_succ])
      refine PlanO.exec (fun K hK => ?_)
      go_simp
      go_at_call 11
      refine (rbats_any _ _ x1 x2 v4 HJ3.out HJ2.out HX2.out).mono ?_
      rintro e v5 ⟨rfl, hb5⟩
      have HE5 : Hid (Ext w6 v5) := Lib.hid (Ext.trans HE4.out hb5)
      go_wp2_with fail
      refine hK.out _ _ hb5 ?_
      clear hK K
      (try simp only [Act.put, List.setIfInBounds_toArray, List.set_cons_zero, List.set_cons_succ])
      refine PlanO.take (v := .bool true) (by kernel_rfl) ?y15 ?r15
      case y15 => (intro wz hz; go_simp)
      (try simp only [Act.put, List.setIfInBounds_toArray, List.set_cons_zero, List.set_cons_succ])
      refine PlanO.take (v := .bool true) (by kernel_rfl) ?y16 ?r16
      case y16 => (intro wz hz; go_simp)
      (try simp only [Act.put, List.setIfInBounds_toArray, List.set_cons_zero, List.set_cons_succ])
      refine PlanO.exec (fun K hK => ?_)
      go_simp
      go_at_call 8
      refine (awake9_any v5).mono ?_
      rintro e v6 ⟨rfl, hb6⟩
      have HE6 : Hid (Ext w6 v6) := Lib.hid (Ext.trans HE5.out hb6)
      go_wp2_with fail
      refine hK.out _ _ hb6 ?_
      clear hK K
      (try simp only [Act.put, List.setIfInBounds_toArray, List.set_cons_zero, List.set_cons_succ])
      refine PlanO.take (v := .bool true) (by kernel_rfl) ?y18 ?r18
      case y18 => (intro wz hz; go_simp)
      (try simp only [Act.put, List.setIfInBounds_toArray, List.set_cons_zero, List.set_cons_succ])
      refine PlanO.take (v := .bool true) (by kernel_rfl) ?y19 ?r19
      case y19 => (intro wz hz; go_simp)
      (try simp only [Act.put, List.setIfInBounds_toArray, List.set_cons_zero, List.set_cons_succ])
      refine PlanO.done (NoPanic.normal ?_)
      go_wp2
      go_ret
      exact ⟨rfl, HBB.out.trans (Below.mono HE6.out HBB.out.size)⟩
end Go.Proofs.Ytpbmacbogmnokaa

/-
  How arguments are opened: a slice of bytes that came in reads as a list of bytes; a slice of integers as a list of integers.
-/
namespace Go.Proofs.Ytpbmacbogmnokaa
open Go.ChangeShapes Go.WideShapes Go.ChangeAt Go.RowKit

/-- The slice 'v' reads as the integers 'zs' (each of them fits the kind 'k') in world 'w'. -/
def RdI (k : IntKind) (w : World) (v : Value) (zs : List Int) : Prop :=
  ∃ a cap, v = .slice a zs.length cap ∧ zs.length ≤ cap ∧ cap ≤ maxLen ∧ (∀ n ∈ zs, (Lit.int k n).wf = true) ∧
    ((zs = [] ∧ (a = none → cap = 0)) ∨ ∃ b off, a = some ⟨b, off, none⟩ ∧ b < w.heap.size ∧ ∀ i, i < zs.length → w.cell? ⟨b, off + i, none⟩ = some (.int k (zs.getD i 0)))

theorem rdI_open {H : Type} {enc : TypeId × Value → H} {P : Program} {w : World} {k : IntKind} {t e : TypeId} {base : Nat} {m : Nat} {spare : Nat → Bool} {held : Bool} {v : Value} {d : DataW H} {p : List MemPlace} (ht : P.underlying t = some (.slice e)) (he : P.underlying e = some (.int k)) (hc : P.cellsOf e = 1)
    (hok : Value.okWide P w .any base t v) (hd : DataW.Trod enc P w m spare held t v d p) : ∃ zs, RdI k w v zs := by
  obtain ⟨a, len, cap, rfl⟩ := okWide_slice ht hok
  obtain ⟨fuel, hf⟩ := hd
  rcases open_ints ht he hc hf with ⟨hcs, _⟩ | ⟨x, l, c, zs, hcs, _, hl, hm, hz, _, hcell, hwz⟩
  · simp [Value.cells] at hcs
    obtain ⟨rfl, rfl, rfl⟩ := hcs
    exact ⟨[], none, 0, rfl, Nat.le_refl _, Nat.zero_le _, by simp, .inl ⟨rfl, fun _ => rfl⟩⟩
  · simp [Value.cells] at hcs
    obtain ⟨rfl, rfl, rfl⟩ := hcs
    have hz' : len ≤ zs.length := by rw [hz]; split <;> omega
    have hlen : (zs.take len).length = len := by rw [List.length_take]; omega
    refine ⟨zs.take len, some x, cap, by rw [hlen], by rw [hlen]; exact hl, hm, fun n hn => hwz n (List.mem_of_mem_take hn), ?_⟩
    by_cases h0 : len = 0
    · left; subst h0; exact ⟨rfl, fun h => by cases h⟩
    · right
      obtain ⟨b, off, spot⟩ := x
      have hc0 := hcell 0 (by omega)
      have hspot : spot = none := by simpa [Addr.add] using World.cell?_spot hc0
      subst hspot
      refine ⟨b, off, rfl, World.block_lt_of_cell? w _ hc0, fun i hi => ?_⟩
      have hi' : i < len := by omega
      have h1 := hcell i (by omega)
      have hadd : (⟨b, off, none⟩ : Addr).add i = ⟨b, off + i, none⟩ := by unfold Addr.add; split <;> simp_all
      rw [hadd] at h1
      rw [h1]
      simp [List.getD, hi']

theorem RdI.bytes {w : World} {v : Value} {zs : List Int} (h : RdI .u8 w v zs) : ∃ l, RdB w v l := by
  obtain ⟨a, cap, rfl, h1, h2, h3, h4⟩ := h
  have key : ∀ (zs : List Int), (∀ n ∈ zs, (Lit.int .u8 n).wf = true) → ∃ l : List UInt8, l.map (fun c => (c.toNat : Int)) = zs := by
    intro zs
    induction zs with
    | nil => exact fun _ => ⟨[], rfl⟩
    | cons z zs ih =>
      intro h
      obtain ⟨l, hl⟩ := ih fun n hn => h n (List.mem_cons_of_mem _ hn)
      have hz := bounds_u8 (h z (List.mem_cons_self ..))
      refine ⟨UInt8.ofNat z.toNat :: l, ?_⟩
      rw [List.map_cons, hl, UInt8.toNat_ofNat', Nat.mod_eq_of_lt (by omega)]
      congr 1
      omega
  obtain ⟨l, rfl⟩ := key zs h3
  simp only [List.length_map] at h1 h4 ⊢
  refine ⟨l, a, cap, rfl, h1, h2, by simp, ?_⟩
  rcases h4 with ⟨h4, h5⟩ | ⟨b, off, rfl, h5, h6⟩
  · left; exact ⟨by simpa using h4, h5⟩
  · refine .inr ⟨b, off, rfl, h5, fun j u hj => ?_⟩
    have hj' : j < l.length := by
      rcases Nat.lt_or_ge j l.length with h | h
      · exact h
      · simp [List.getElem?_eq_none h] at hj
    rw [h6 j hj']
    simp [hj'] at hj
    simp [List.getD, hj', hj]

theorem rdB_open {H : Type} {enc : TypeId × Value → H} {P : Program} {w : World} {t e : TypeId} {base : Nat} {m : Nat} {spare : Nat → Bool} {held : Bool} {v : Value} {d : DataW H} {p : List MemPlace} (ht : P.underlying t = some (.slice e)) (he : P.underlying e = some (.int .u8)) (hc : P.cellsOf e = 1)
    (hok : Value.okWide P w .any base t v) (hd : DataW.Trod enc P w m spare held t v d p) : ∃ l, RdB w v l :=
  let ⟨_, h⟩ := rdI_open ht he hc hok hd
  h.bytes
end Go.Proofs.Ytpbmacbogmnokaa

/-
  How arguments are opened: operations, batches.
-/
namespace Go.Proofs.Ytpbmacbogmnokaa
open Go.ChangeShapes Go.WideShapes Go.ChangeAt Go.RowKit Go.Deep
set_option maxRecDepth 100000

section
variable {H : Type} {enc : TypeId × Value → H} {w : World} {base : Nat} {spare : Nat → Bool} {held : Bool}

theorem oget_some {α : Type} {xs : List α} {i n : Nat} (h : xs.length = n) (hi : i < n) : ∃ y, xs[i]? = some y := ⟨xs[i]'(by omega), List.getElem?_eq_getElem (by omega)⟩

theorem opCells_open {n : Nat} {cs : List Value} {x : DataW H × List MemPlace} (h : DataW.trod enc Try.prog w base spare held n 43 cs = some x) : ∃ o : Ope, cs = o.cells ∧ o.fits := by
  obtain ⟨xs, m, _, _, hl, hx, hf⟩ := DataW.trod_struct Try.underlying43 h
  have hl' : cs.length = 3 := hl.trans (by kernel_rfl)
  match cs, hl' with
  | [c0, c1, c2], _ =>
    have cS : Try.prog.cellsOf 9 = 1 := by kernel_rfl
    have cI : Try.prog.cellsOf 3 = 1 := by kernel_rfl
    have h0 : DataW.trod enc Try.prog w base spare held m 3 (([c0, c1, c2].drop 0).take (Try.prog.cellsOf 3)) = xs[0]? := hf 0 _ rfl
    have h1 : DataW.trod enc Try.prog w base spare held m 9 (([c0, c1, c2].drop 1).take (Try.prog.cellsOf 9)) = xs[1]? := hf 1 _ rfl
    have h2 : DataW.trod enc Try.prog w base spare held m 9 (([c0, c1, c2].drop 2).take (Try.prog.cellsOf 9)) = xs[2]? := hf 2 _ rfl
    rw [cI] at h0
    rw [cS] at h1 h2
    obtain ⟨y0, e0⟩ := oget_some (i := 0) hx (by decide)
    obtain ⟨y1, e1⟩ := oget_some (i := 1) hx (by decide)
    obtain ⟨y2, e2⟩ := oget_some (i := 2) hx (by decide)
    obtain ⟨k, q0, _, hk⟩ := DataW.trod_int Try.underlying3 (h0.trans e0)
    obtain ⟨u, q1, _, hu⟩ := DataW.trod_string Try.underlying9 (h1.trans e1)
    obtain ⟨v, q2, _, hv⟩ := DataW.trod_string Try.underlying9 (h2.trans e2)
    simp at q0 q1 q2
    subst q0 q1 q2
    exact ⟨⟨k, u, v⟩, rfl, hk, hu, hv⟩

theorem rdO_cell {m n : Nat} {c : Value} {d : DataW H} {p : List MemPlace} (hf : DataW.trod enc Try.prog w m spare held n 22 [c] = some (d, p)) : ∃ l, RdO w c l := by
  rcases open_slice Try.underlying22 hf with ⟨hcs, _⟩ | ⟨x, len, cap, q, n, D, Pl, hcs, _, hl, hm, hq, _, hcell⟩
  · simp at hcs
    subst hcs
    exact ⟨[], Rd.nil _ _, by simp⟩
  · simp at hcs
    subst hcs
    have cE : Try.prog.cellsOf 43 = 3 := by kernel_rfl
    rw [cE] at hcell
    have hlq : len ≤ q := by rw [hq]; split <;> omega
    have key : ∀ k, k ≤ len → ∃ l : List Ope, l.length = k ∧ (∀ o ∈ l, o.fits) ∧ ∀ i, i < k → w.cells? m (x.add (i * 3)) 3 = some (l.getD i Ope.none_).cells := by
      intro k
      induction k with
      | zero => exact fun _ => ⟨[], rfl, by simp, fun i hi => by omega⟩
      | succ k ih =>
        intro hk
        obtain ⟨l, h1, h2, h3⟩ := ih (by omega)
        obtain ⟨cs', hc, ht⟩ := hcell k (by omega)
        obtain ⟨o, rfl, ho⟩ := opCells_open ht
        refine ⟨l ++ [o], by simp [h1], ?_, ?_⟩
        · intro o' ho'
          rcases List.mem_append.1 ho' with h | h
          · exact h2 o' h
          · have : o' = o := by simpa using h
            subst this; exact ho
        · intro i hi
          rcases Nat.lt_or_ge i k with hik | hik
          · rw [h3 i hik]
            simp [List.getD, List.getElem?_append_left (by omega : i < l.length)]
          · have : i = k := by omega
            subst this
            rw [hc]
            simp [List.getD, h1]
    obtain ⟨l, h1, h2, h3⟩ := key len (Nat.le_refl _)
    refine ⟨l, ?_, h2⟩
    by_cases h0 : len = 0
    · subst h0
      have : l = [] := List.eq_nil_of_length_eq_zero h1
      subst this
      exact ⟨some x, cap, rfl, hl, hm, by simp, .inl ⟨rfl, fun h => by cases h⟩⟩
    · obtain ⟨b, off, spot⟩ := x
      obtain ⟨_, _, hat⟩ := World.cells?_some (h3 0 (by omega))
      have hc0 := hat 0 (by omega)
      have hspot : spot = none := by
        have : ∃ v, w.cell? (((⟨b, off, spot⟩ : Addr).add (0 * 3)).add 0) = some v := ⟨_, hc0⟩
        obtain ⟨v, hv⟩ := this
        simpa [Addr.add] using World.cell?_spot hv
      subst hspot
      have hadd : ∀ i, (⟨b, off, none⟩ : Addr).add i = ⟨b, off + i, none⟩ := by intro i; unfold Addr.add; split <;> simp_all
      have hadd2 : ∀ o i, (⟨b, o, none⟩ : Addr).add i = ⟨b, o + i, none⟩ := by intro o i; unfold Addr.add; split <;> simp_all
      have hlen : (l.flatMap Ope.cells).length = len * 3 := by rw [opFlat_length, h1]
      refine ⟨some ⟨b, off, none⟩, cap, by rw [h1], by omega, hm, by rw [hlen, h1], .inr ⟨b, off, rfl, ?_, ?_⟩⟩
      · have : ∃ v, w.cell? ⟨b, off, none⟩ = some v := ⟨(l.getD 0 Ope.none_).cells[0], by rw [hadd, hadd2] at hc0; exact hc0⟩
        obtain ⟨v, hv⟩ := this
        exact World.block_lt_of_cell? w _ hv
      · intro j u hj
        have hj' : j < len * 3 := by
          rcases Nat.lt_or_ge j (len * 3) with h | h
          · exact h
          · rw [List.getElem?_eq_none (by omega)] at hj; cases hj
        have hd : j = j / 3 * 3 + j % 3 := by omega
        obtain ⟨_, _, hat⟩ := World.cells?_some (h3 (j / 3) (by omega))
        have := hat (j % 3) (by omega)
        rw [hadd, hadd2, Nat.add_assoc, ← hd] at this
        rw [this]
        rw [hd, opFlat_at l (j / 3) (j % 3) (by omega) (by omega)] at hj
        exact hj

theorem rdO_open {b0 : Nat} {m : Nat} {v : Value} {d : DataW H} {p : List MemPlace} (hok : Value.okWide Try.prog w .any b0 22 v) (hd : DataW.Trod enc Try.prog w m spare held 22 v d p) : ∃ l, RdO w v l := by
  obtain ⟨a, len, cap, rfl⟩ := okWide_slice Try.underlying22 hok
  obtain ⟨fuel, hf⟩ := hd
  exact rdO_cell hf


theorem bat_open {r : Reach} {b0 : Nat} {v : Value} {d : DataW H} {p : List MemPlace} (hv : Value.okWide Try.prog w r b0 24 v) (h : DataW.Trod enc Try.prog w base spare held 24 v d p) :
    ∃ (s : Int) (vl : Value) (l : List Ope), v = .agg #[.int .i64 s, vl] ∧ (Lit.int .i64 s).wf = true ∧ RdO w vl l := by
  obtain ⟨cs, rfl, _⟩ := okWide_struct Try.underlying24 hv
  obtain ⟨n, hn⟩ := h
  have hn' : DataW.trod enc Try.prog w base spare held n 24 cs.toList = some (d, p) := hn
  obtain ⟨xs, m, _, _, hl, hx, hf⟩ := DataW.trod_struct Try.underlying24 hn'
  have hl' : cs.toList.length = 2 := hl.trans (by kernel_rfl)
  generalize hcs : cs.toList = L at hl' hf
  match L, hl' with
  | [c0, c1], _ =>
    have cO : Try.prog.cellsOf 22 = 1 := by kernel_rfl
    have cI : Try.prog.cellsOf 3 = 1 := by kernel_rfl
    have h0 : DataW.trod enc Try.prog w base spare held m 3 (([c0, c1].drop 0).take (Try.prog.cellsOf 3)) = xs[0]? := hf 0 _ rfl
    have h1 : DataW.trod enc Try.prog w base spare held m 22 (([c0, c1].drop 1).take (Try.prog.cellsOf 22)) = xs[1]? := hf 1 _ rfl
    rw [cI] at h0
    rw [cO] at h1
    obtain ⟨y0, e0⟩ := oget_some (i := 0) hx (by decide)
    obtain ⟨y1, e1⟩ := oget_some (i := 1) hx (by decide)
    obtain ⟨s, q0, _, hs⟩ := DataW.trod_int Try.underlying3 (h0.trans e0)
    have h1' : DataW.trod enc Try.prog w base spare held m 22 [c1] = some y1 := h1.trans e1
    obtain ⟨d1, p1⟩ := y1
    obtain ⟨l, hr⟩ := rdO_cell h1'
    simp at q0
    subst q0
    refine ⟨s, c1, l, ?_, hs, hr⟩
    congr 1
    exact Array.toList_inj.1 hcs
end
end Go.Proofs.Ytpbmacbogmnokaa

/-
  How arguments are opened: a slice of slices of bytes.
-/
namespace Go.Proofs.Ytpbmacbogmnokaa
open Go.ChangeShapes Go.WideShapes Go.ChangeAt Go.RowKit Go.Deep

section
variable {H : Type} {enc : TypeId × Value → H} {w : World} {base : Nat} {spare : Nat → Bool} {held : Bool}

theorem rdI_cell {P : Program} {k : IntKind} {t e : TypeId} {m n : Nat} {c : Value} {d : DataW H} {p : List MemPlace} (ht : P.underlying t = some (.slice e)) (he : P.underlying e = some (.int k)) (hc : P.cellsOf e = 1)
    (hf : DataW.trod enc P w m spare held n t [c] = some (d, p)) : ∃ zs, RdI k w c zs := by
  rcases open_ints ht he hc hf with ⟨hcs, _⟩ | ⟨x, l, cc, zs, hcs, _, hl, hm, hz, _, hcell, hwz⟩
  · simp at hcs
    subst hcs
    exact ⟨[], none, 0, rfl, Nat.le_refl _, Nat.zero_le _, by simp, .inl ⟨rfl, fun _ => rfl⟩⟩
  · simp at hcs
    subst hcs
    have hz' : l ≤ zs.length := by rw [hz]; split <;> omega
    have hlen : (zs.take l).length = l := by rw [List.length_take]; omega
    refine ⟨zs.take l, some x, cc, by rw [hlen], by rw [hlen]; exact hl, hm, fun n hn => hwz n (List.mem_of_mem_take hn), ?_⟩
    by_cases h0 : l = 0
    · left; subst h0; exact ⟨rfl, fun h => by cases h⟩
    · right
      obtain ⟨b, off, spot⟩ := x
      have hc0 := hcell 0 (by omega)
      have hspot : spot = none := by simpa [Addr.add] using World.cell?_spot hc0
      subst hspot
      refine ⟨b, off, rfl, World.block_lt_of_cell? w _ hc0, fun i hi => ?_⟩
      have hi' : i < l := by omega
      have h1 := hcell i (by omega)
      have hadd : (⟨b, off, none⟩ : Addr).add i = ⟨b, off + i, none⟩ := by unfold Addr.add; split <;> simp_all
      rw [hadd] at h1
      rw [h1]
      simp [List.getD, hi']

set_option maxRecDepth 100000 in
theorem rdLL_open {b0 : Nat} {m : Nat} {v : Value} {d : DataW H} {p : List MemPlace} (hok : Value.okWide Try.prog w .any b0 25 v) (hd : DataW.Trod enc Try.prog w m spare held 25 v d p) : ∃ ls, RdLL w v ls := by
  obtain ⟨a, len, cap, rfl⟩ := okWide_slice Try.underlying25 hok
  obtain ⟨fuel, hf⟩ := hd
  rcases open_slice Try.underlying25 hf with ⟨hcs, _⟩ | ⟨x, l, c, q, n, D, Pl, hcs, _, hl, hm, hq, _, hcell⟩
  · simp [Value.cells] at hcs
    obtain ⟨rfl, rfl, rfl⟩ := hcs
    exact ⟨[], [], Rd.nil _ _, fun i c l h => by simp at h⟩
  · simp [Value.cells] at hcs
    obtain ⟨rfl, rfl, rfl⟩ := hcs
    have cE : Try.prog.cellsOf 27 = 1 := by kernel_rfl
    rw [cE] at hcell
    have hlq : len ≤ q := by rw [hq]; split <;> omega
    have key : ∀ k, k ≤ len → ∃ (cs : List Value) (ls : List (List UInt8)), cs.length = k ∧ ls.length = k ∧ (∀ (i : Nat) (c : Value) (l : List UInt8), cs[i]? = some c → ls[i]? = some l → RdB w c l) ∧ ∀ i, i < k → w.cells? m (x.add (i * 1)) 1 = some [cs.getD i undef] := by
      intro k
      induction k with
      | zero => exact fun _ => ⟨[], [], rfl, rfl, fun i c l h => by simp at h, fun i hi => by omega⟩
      | succ k ih =>
        intro hk
        obtain ⟨cs, ls, h1, h2, h3, h4⟩ := ih (by omega)
        obtain ⟨cs', hc, ht⟩ := hcell k (by omega)
        have hl1 : cs'.length = 1 := by
          obtain ⟨_, h5, _⟩ := World.cells?_some hc
          exact h5
        obtain ⟨c, rfl⟩ : ∃ c, cs' = [c] := by
          match cs', hl1 with
          | [c], _ => exact ⟨c, rfl⟩
        obtain ⟨zs, hzs⟩ := rdI_cell Try.underlying27 Try.underlying5 (by kernel_rfl) ht
        obtain ⟨l, hl'⟩ := hzs.bytes
        refine ⟨cs ++ [c], ls ++ [l], by simp [h1], by simp [h2], fun i c' l' hc' hl'' => ?_, fun i hi => ?_⟩
        · rcases Nat.lt_or_ge i k with hik | hik
          · rw [List.getElem?_append_left (by omega)] at hc' hl''
            exact h3 i c' l' hc' hl''
          · rw [List.getElem?_append_right (by omega)] at hc' hl''
            obtain ⟨hi0, _⟩ := List.getElem?_eq_some_iff.1 hc'
            have hz : i - k = 0 := by simp at hi0; omega
            rw [h1, hz] at hc'
            rw [h2, hz] at hl''
            cases hc'
            cases hl''
            exact hl'
        · rcases Nat.lt_or_ge i k with hik | hik
          · rw [h4 i hik]
            simp [List.getD, List.getElem?_append_left (by omega : i < cs.length)]
          · have : i = k := by omega
            subst this
            rw [hc]
            simp [List.getD, h1]
    obtain ⟨cs, ls, h1, h2, h3, h4⟩ := key len (Nat.le_refl _)
    refine ⟨ls, cs, ?_, h3⟩
    by_cases h0 : len = 0
    · subst h0
      have e1 : ls = [] := List.eq_nil_of_length_eq_zero h2
      have e2 : cs = [] := List.eq_nil_of_length_eq_zero h1
      subst e1 e2
      exact ⟨some x, cap, rfl, hl, hm, by simp, .inl ⟨rfl, fun h => by cases h⟩⟩
    · obtain ⟨b, off, spot⟩ := x
      obtain ⟨_, _, hat⟩ := World.cells?_some (h4 0 (by omega))
      have hc0 := hat 0 (by omega)
      have hspot : spot = none := by
        have : ∃ v, w.cell? (((⟨b, off, spot⟩ : Addr).add (0 * 1)).add 0) = some v := ⟨_, hc0⟩
        obtain ⟨v, hv⟩ := this
        simpa [Addr.add] using World.cell?_spot hv
      subst hspot
      have hadd : ∀ i, (⟨b, off, none⟩ : Addr).add i = ⟨b, off + i, none⟩ := by intro i; unfold Addr.add; split <;> simp_all
      have hadd2 : ∀ o i, (⟨b, o, none⟩ : Addr).add i = ⟨b, o + i, none⟩ := by intro o i; unfold Addr.add; split <;> simp_all
      refine ⟨some ⟨b, off, none⟩, cap, by rw [h2], by omega, hm, by omega, .inr ⟨b, off, rfl, ?_, ?_⟩⟩
      · have : ∃ v, w.cell? ⟨b, off, none⟩ = some v := ⟨[cs.getD 0 undef][0], by rw [hadd, hadd2] at hc0; exact hc0⟩
        obtain ⟨v, hv⟩ := this
        exact World.block_lt_of_cell? w _ hv
      · intro j u hj
        have hj' : j < len := by
          rcases Nat.lt_or_ge j len with h | h
          · exact h
          · rw [List.getElem?_eq_none (by omega)] at hj; cases hj
        obtain ⟨_, _, hat⟩ := World.cells?_some (h4 j hj')
        have := hat 0 (by omega)
        rw [hadd, hadd2, Nat.mul_one, Nat.add_zero] at this
        rw [this]
        simp [List.getD, hj]
end
end Go.Proofs.Ytpbmacbogmnokaa
