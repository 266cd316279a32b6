/-
  The document's far store: Put.
-/
import Derived.Test.YtljjgpjaleekdaaGreatDoorRefFar6
namespace Go.Proofs.YtljjgpjaleekdaaGreatDoor
open Go.RowKit

theorem putD_some {f : FR} {n b : List UInt8} (h : f.putE n b ≠ 0) : f.putD n b = f := by unfold FR.putD; rw [if_neg h]
theorem put_err {f : FR} {n b : List UInt8} (h : f.putE n b ≠ 0 ∨ f.out = 1) : f.put n b = (tells f.out (f.putE n b), f.took) := by
  unfold FR.put FR.does
  by_cases ho : f.out = 1
  · rw [if_pos ho]
  · rw [if_neg ho]
    rcases h with h | h
    · dsimp only
      rw [show f.took.putD n b = f.took from putD_some (f := f.took) h]
    · exact absurd h ho

theorem nput_step {β : Type} {l : List (List UInt8 × β)} {k : Nat} {x : List UInt8 × β} (hx : l[k]? = some x) (n : List UInt8) (b : β) : nput (l.drop k) n b = if bytesBefore n x.1 then (n, b) :: x :: l.drop (k + 1) else x :: nput (l.drop (k + 1)) n b := by
  obtain ⟨h1, h2⟩ := List.getElem?_eq_some_iff.1 hx
  rw [List.drop_eq_getElem_cons h1, h2]
  rfl

theorem less_before : ∀ l m : List UInt8, l ≠ m → Op.bytesLess l m = !bytesBefore m l
  | [], [], h => absurd rfl h
  | [], _ :: _, _ => rfl
  | _ :: _, [], _ => rfl
  | a :: x, b :: y, h => by
    unfold Op.bytesLess bytesBefore
    by_cases e : a = b
    · subst e
      have := less_before x y fun e => h (by rw [e])
      simp [this]
    · have e' : ¬ b = a := fun h => e h.symm
      have e1 : (a == b) = false := by simpa using e
      have e2 : (b == a) = false := by simpa using e'
      rw [e1, e2]
      by_cases q : a < b
      · have q2 : ¬ b < a := fun h => absurd (UInt8.lt_trans q h) (UInt8.lt_irrefl _)
        simp [q, q2]
      · have q2 : b < a := by
          rcases UInt8.lt_or_lt_of_ne e with h | h
          · exact absurd h q
          · exact h
        simp [q, q2]

theorem str_gtr (t : TypeId) (a b : ByteArray) : binOp .gtr t (.string a) (.string b) = pure (.bool !(Op.bytesLess a.toList b.toList || a.toList == b.toList)) := by simp [binOp, Op.stringOp]

theorem nfind_ne {β : Type} {l : List (List UInt8 × β)} {n : List UInt8} (h : nfind l n = none) : ∀ y ∈ l, y.1 ≠ n := by
  intro y hy e
  unfold nfind at h
  rw [Option.map_eq_none_iff, List.find?_eq_none] at h
  exact h y hy (by simp [e])

theorem rd_file {w : World} {la : Option Addr} {lc : Nat} {l : List (List UInt8 × List UInt8)} (h : Rd w 3 (.slice la l.length lc) l.length (fileCells l)) {i : Nat} {x : List UInt8 × List UInt8} (hx : l[i]? = some x) : ∃ lb lo, la = some ⟨lb, lo, none⟩ ∧ w.cell? ⟨lb, lo + i * 3, none⟩ = some (.string (strB x.1)) ∧ w.cell? ⟨lb, lo + i * 3 + 1, none⟩ = some (.string (strB x.2)) ∧ w.cell? ⟨lb, lo + i * 3 + 2, none⟩ = some (.int .i64 0) ∧ lb < w.heap.size := by
  obtain ⟨a, cap, hv, _, _, _, h3⟩ := h
  cases hv
  have hil := (List.getElem?_eq_some_iff.1 hx).1
  rcases h3 with ⟨h0, _⟩ | ⟨b, off, rfl, hb, hc⟩
  · omega
  · exact ⟨b, off, rfl, hc (i * 3) _ (fileCells_at hx).1, by rw [Nat.add_assoc]; exact hc (i * 3 + 1) _ (fileCells_at hx).2.1, by rw [Nat.add_assoc]; exact hc (i * 3 + 2) _ (fileCells_at hx).2.2, hb⟩

set_option maxRecDepth 100000 in
set_option maxHeartbeats 8000000 in
set_option linter.unusedSimpArgs false in
theorem rput_at {H : Nat → Prop} {w : World} {q : Nat} {f : FR} (h : RefAt H w q f) (hol : f.objs.length < 1000000) (hcl : f.calls < 1000000000000) (s : ByteArray) (hs : s.size ≤ maxLen) (v : Value) (b : List UInt8) (hv : RdB w v b) (hbl : b.length ≤ maxLen) (ov : b ≠ [] → ∀ k, v.ownBlock = some k → ¬ H k) :
    Calls Tryz.prog 29 #[.pointer (some ⟨q, 0, none⟩), .string s, v] w fun e w' => e = .returned (.int .i64 ((f.put s.data.toList b).1 : Int)) ∧ RefTo H w w' q (f.put s.data.toList b).2 := by
  have HT := Lib.hid (rtake_at h hcl)
  have hv0 := hv
  obtain ⟨va, vc, rfl, _, _⟩ := RdB.form hv
  have HV := Lib.hid hv0
  have HOV := Lib.hid ov
  clear h hv hv0 ov
  unfold maxLen at hbl
  cases hok : nmOk s.data.toList with
  | false =>
    have hE : f.putE s.data.toList b = 1 := by unfold FR.putE; rw [hok]; rfl
    rw [put_err (.inl (by rw [hE]; decide)), hE]
    have HOK := Lib.hid hok
    have HTO := Lib.hid (fun (w : World) => told_any w f.out 1)
    clear hok hE
    go_enter Tryz.func29, Tryz.ntmps29
    go_wp2_with (first | (go_at_call 48; refine HT.out.mono ?_; rintro e w1 ⟨rfl, h1, ht1, hs1⟩; have H1 := Lib.hid h1; have HT1 := Lib.hid ht1; have HS1 := Lib.hid hs1; obtain ⟨⟨lv, nv, k1, k2, _⟩, _⟩ := h1; obtain ⟨la, lc, hlv, hlc, hlm, hx1, hx2⟩ := k2; subst hlv; have HP := Lib.hid k1; have HRD := Lib.hid (show Rd w1 3 (.slice la f.objs.length lc) f.objs.length (fileCells f.objs) from ⟨la, lc, rfl, hlc, hlm, hx1, hx2⟩); clear k1 ht1 hs1 hx1 hx2) | (go_at_call 49; refine (named_any _ s hs).mono ?_; rw [HOK.out]; rintro e w2 ⟨rfl, rfl⟩) | (go_at_call 51; refine (HTO.out _).mono ?_; rintro e w2 ⟨rfl, rfl⟩))
    go_ret
    exact ⟨rfl, H, H1.out, HT1.out, Grows.refl _ _ _⟩
  | true =>
    have hnn : (!nmOk s.data.toList) = false := by rw [hok]; rfl
    have HOK := Lib.hid hok
    by_cases hlg : 1048576 < b.length
    · have hE : f.putE s.data.toList b = 4 := by unfold FR.putE; rw [hnn, if_neg (by simp), if_pos hlg]
      rw [put_err (.inl (by rw [hE]; decide)), hE]
      have HTO := Lib.hid (fun (w : World) => told_any w f.out 4)
      have g1 : (1048576 : Int) < (b.length : Int) := by omega
      clear hok hE hnn
      go_enter Tryz.func29, Tryz.ntmps29
      go_wp2_with (first | (go_at_call 48; refine HT.out.mono ?_; rintro e w1 ⟨rfl, h1, ht1, hs1⟩; have H1 := Lib.hid h1; have HT1 := Lib.hid ht1; have HS1 := Lib.hid hs1; obtain ⟨⟨lv, nv, k1, k2, _⟩, _⟩ := h1; obtain ⟨la, lc, hlv, hlc, hlm, hx1, hx2⟩ := k2; subst hlv; have HP := Lib.hid k1; have HRD := Lib.hid (show Rd w1 3 (.slice la f.objs.length lc) f.objs.length (fileCells f.objs) from ⟨la, lc, rfl, hlc, hlm, hx1, hx2⟩); clear k1 ht1 hs1 hx1 hx2) | (go_at_call 49; refine (named_any _ s hs).mono ?_; rw [HOK.out]; rintro e w2 ⟨rfl, rfl⟩) | (go_at_call 51; refine (HTO.out _).mono ?_; rintro e w2 ⟨rfl, rfl⟩))
      go_ret
      exact ⟨rfl, H, H1.out, HT1.out, Grows.refl _ _ _⟩
    · have g1 : ¬ (1048576 : Int) < (b.length : Int) := by omega
      cases hi : nidx f.objs s.data.toList with
      | some i =>
        have hsm : (nfind f.objs s.data.toList).isSome = true := by rw [← nidx_find, hi]; rfl
        have hE : f.putE s.data.toList b = 3 := by unfold FR.putE; rw [hnn, if_neg (by simp), if_neg hlg, if_pos hsm]
        rw [put_err (.inl (by rw [hE]; decide)), hE]
        have HI := Lib.hid (show nidxI f.objs s.data.toList = (i : Int) by unfold nidxI; rw [hi])
        have HTO := Lib.hid (fun (w : World) => told_any w f.out 3)
        clear hok hE hnn hsm hi
        go_enter Tryz.func29, Tryz.ntmps29
        go_wp2_with (first | (go_at_call 48; refine HT.out.mono ?_; rintro e w1 ⟨rfl, h1, ht1, hs1⟩; have H1 := Lib.hid h1; have HT1 := Lib.hid ht1; have HS1 := Lib.hid hs1; obtain ⟨⟨lv, nv, k1, k2, _⟩, _⟩ := h1; obtain ⟨la, lc, hlv, hlc, hlm, hx1, hx2⟩ := k2; subst hlv; have HP := Lib.hid k1; have HRD := Lib.hid (show Rd w1 3 (.slice la f.objs.length lc) f.objs.length (fileCells f.objs) from ⟨la, lc, rfl, hlc, hlm, hx1, hx2⟩); clear k1 ht1 hs1 hx1 hx2) | (go_at_call 49; refine (named_any _ s hs).mono ?_; rw [HOK.out]; rintro e w2 ⟨rfl, rfl⟩) | (go_at_call 50; refine (rat_any w1 q _ f.objs s hol (blk_cell HP.out) HRD.out).mono ?_; rw [HI.out]; rintro e w2 ⟨rfl, rfl⟩) | (go_at_call 51; refine (HTO.out _).mono ?_; rintro e w2 ⟨rfl, rfl⟩))
        go_ret
        exact ⟨rfl, H, H1.out, HT1.out, Grows.refl _ _ _⟩
      | none =>
        have hsm : (nfind f.objs s.data.toList).isSome = false := by rw [← nidx_find, hi]; rfl
        have hfn : nfind f.objs s.data.toList = none := by
          cases hx : nfind f.objs s.data.toList with
          | none => rfl
          | some _ => rw [hx] at hsm; cases hsm
        have hE : f.putE s.data.toList b = 0 := by unfold FR.putE; rw [hnn, if_neg (by simp), if_neg hlg, hsm]; rfl
        have HI := Lib.hid (show nidxI f.objs s.data.toList = -1 by unfold nidxI; rw [hi])
        by_cases ho : f.out = 1
        · rw [put_err (.inr ho), hE]
          rw [ho] at HT ⊢
          have HTO := Lib.hid (fun (w : World) => told_any w 1 0)
          clear hok hE hnn hsm hi hfn ho
          go_enter Tryz.func29, Tryz.ntmps29
          go_wp2_with (first | (go_at_call 48; refine HT.out.mono ?_; rintro e w1 ⟨rfl, h1, ht1, hs1⟩; have H1 := Lib.hid h1; have HT1 := Lib.hid ht1; have HS1 := Lib.hid hs1; obtain ⟨⟨lv, nv, k1, k2, _⟩, _⟩ := h1; obtain ⟨la, lc, hlv, hlc, hlm, hx1, hx2⟩ := k2; subst hlv; have HP := Lib.hid k1; have HRD := Lib.hid (show Rd w1 3 (.slice la f.objs.length lc) f.objs.length (fileCells f.objs) from ⟨la, lc, rfl, hlc, hlm, hx1, hx2⟩); clear k1 ht1 hs1 hx1 hx2) | (go_at_call 49; refine (named_any _ s hs).mono ?_; rw [HOK.out]; rintro e w2 ⟨rfl, rfl⟩) | (go_at_call 50; refine (rat_any w1 q _ f.objs s hol (blk_cell HP.out) HRD.out).mono ?_; rw [HI.out]; rintro e w2 ⟨rfl, rfl⟩) | (go_at_call 51; refine (HTO.out _).mono ?_; rintro e w2 ⟨rfl, rfl⟩))
          go_ret
          exact ⟨rfl, H, H1.out, HT1.out, Grows.refl _ _ _⟩
        · have hP : f.put s.data.toList b = (tells f.out 0, ⟨nput f.objs s.data.toList b, f.left.tail, f.calls + 1⟩) := by
            unfold FR.put FR.does
            rw [hE, if_neg ho]
            unfold FR.putD
            dsimp only
            rw [if_pos (show f.took.putE s.data.toList b = 0 from hE)]
            show (tells f.out 0, FR.mk (nput (nwithout f.objs s.data.toList) s.data.toList b) f.left.tail (f.calls + 1)) = _
            rw [nwithout_none hfn]
          rw [hP]
          have hob : (f.out == 1) = false := by simpa using ho
          obtain ⟨out, hout⟩ : ∃ out, out = f.out := ⟨_, rfl⟩
          rw [← hout] at HT hob ho ⊢
          have HTO := Lib.hid (fun (w : World) => told_any w out 0)
          clear hok hE hnn hsm hi hP hout
          have HFN := Lib.hid hfn
          clear hfn
          go_enter Tryz.func29, Tryz.ntmps29
          go_wp2_with (first | (go_at_call 48; refine HT.out.mono ?_; rintro e w1 ⟨rfl, h1, ht1, hs1⟩; have H1 := Lib.hid h1; have HT1 := Lib.hid ht1; have HS1 := Lib.hid hs1; obtain ⟨⟨lv, nv, k1, k2, _⟩, _⟩ := h1; obtain ⟨la, lc, hlv, hlc, hlm, hx1, hx2⟩ := k2; subst hlv; have HP := Lib.hid k1; have HRD := Lib.hid (show Rd w1 3 (.slice la f.objs.length lc) f.objs.length (fileCells f.objs) from ⟨la, lc, rfl, hlc, hlm, hx1, hx2⟩); clear k1 ht1 hs1 hx1 hx2) | (go_at_call 49; refine (named_any _ s hs).mono ?_; rw [HOK.out]; rintro e w2 ⟨rfl, rfl⟩) | (go_at_call 50; refine (rat_any w1 q _ f.objs s hol (blk_cell HP.out) HRD.out).mono ?_; rw [HI.out]; rintro e w2 ⟨rfl, rfl⟩) | (go_at_call 51; refine (HTO.out _).mono ?_; rintro e w2 ⟨rfl, rfl⟩))
          have HNE := Lib.hid (nfind_ne HFN.out)
          have HV1 := Lib.hid (rdB_kept HV.out HT1.out fun hne k e hk => ⟨hk, HOV.out hne k e⟩)
          go_loopw [9, 10, 11] (fun u ib i wr => ∃ (k : Nat) (u' : Value) (ib' : Bool) (L : List (List UInt8 × List UInt8)), k ≤ f.objs.length ∧ i = .int .i64 k ∧ u' = u ∧ ib = .bool ib' ∧ L.length = k + ib'.toNat ∧ wr.ownsRow w1.heap.size 64 3 u' L.length (fileCells L) ∧ Below w1.heap.size w1 wr ∧ nput f.objs s.data.toList b = L ++ (if ib' then f.objs.drop k else nput (f.objs.drop k) s.data.toList b)) (fun _ _ i _ => f.objs.length - (intOf i).toNat)
          case atStart => exact ⟨0, _, false, [], Nat.zero_le _, rfl, rfl, rfl, rfl, World.ownsRow_nil _ _ _ _, Below.refl _ _, by simp⟩
          case round =>
            obtain ⟨k, u, ib, L, hk, rfl, rfl, rfl, hLl, hu, hB, hN⟩ := hrel
            have HU := Lib.hid hu
            have HB := Lib.hid hB
            have HN := Lib.hid hN
            have hlcc : f.objs.length ≤ lc := hlc
            have c0 : wr.cell? ⟨q, 0, none⟩ = some (.slice la f.objs.length lc) := blk_cell ((HB.out.block q (blk_lt HP.out)).trans HP.out)
            have hszw := HB.out.size
            have hcv := rdB_convert (P := Tryz.prog) (HV1.out.below HB.out (Nat.le_refl _)) 31 5 9 Tryz.underlying31 Tryz.underlying5 Tryz.underlying9
            clear hu hB hN
            by_cases hlt : k < f.objs.length
            · obtain ⟨x, hx⟩ : ∃ x, f.objs[k]? = some x := ⟨_, List.getElem?_eq_getElem hlt⟩
              obtain ⟨lb, lo, rfl, d1, d2, d3, hlb⟩ := rd_file HRD.out hx
              have e1 := (HB.out.cell (p := ⟨lb, lo + k * 3, none⟩) hlb).trans d1
              have e2 := (HB.out.cell (p := ⟨lb, lo + k * 3 + 1, none⟩) hlb).trans d2
              have e3 := (HB.out.cell (p := ⟨lb, lo + k * 3 + 2, none⟩) hlb).trans d3
              have D1 := Lib.hid d1
              have D2 := Lib.hid d2
              have D3 := Lib.hid d3
              clear d1 d2 d3
              have hdr : f.objs.drop k = x :: f.objs.drop (k + 1) := by
                obtain ⟨q1, q2⟩ := List.getElem?_eq_some_iff.1 hx
                rw [List.drop_eq_getElem_cons q1, q2]
              have hns := nput_step hx s.data.toList b
              have hxn := HNE.out x (List.mem_of_getElem? hx)
              obtain ⟨t, ht⟩ : ∃ t, t = strB x.1 := ⟨_, rfl⟩
              have hts : ¬ t = s := fun e => hxn (by rw [← e, ht])
              have htl : ¬ t.toList = s.toList := fun e => hts (by rw [Lib.toList_data, Lib.toList_data] at e; exact ByteArray.ext (Array.toList_inj.1 e))
              have htb : (t.toList == s.toList) = false := by simpa using htl
              have hlb2 : Op.bytesLess t.toList s.toList = !bytesBefore s.data.toList x.1 := by
                rw [ht, Lib.toList_data, Lib.toList_data]
                exact less_before _ _ hxn
              rw [← ht] at e1
              have HTX := Lib.hid ht
              have hfc : fileCells [x] = [.string t, .string (strB x.2), .int .i64 0] := by rw [ht]; rfl
              have HFC := Lib.hid hfc
              clear hxn ht hfc hx hts htl
              cases ib with
              | true =>
                have HNN := Lib.hid (show (nput f.objs s.data.toList b = (L ++ [x]) ++ f.objs.drop (k + 1)) by rw [HN.out, if_pos rfl, hdr]; simp)
                replace hLl : L.length = k + 1 := hLl
                clear hns hdr hlb2 htb hcv
                go_wp2_with (at_builtin; refine wpList_append_rd rfl (.tmp 66) (.tmp 74) 27 rfl w1.heap.size 64 3 40 (.agg #[.string ⟨#[]⟩, .string ⟨#[]⟩, .int .i64 0]) Tryz.underlying27 info_afile rfl (by decide) u _ L.length 1 (fileCells L) (fileCells [x]) rfl rfl (World.ownsRow.alloc HU.out _) ?rdA (fileCells_one _) ?bbA ?l1A ?l2A ?kkA)
                case rdA => exact ⟨_, 1, rfl, Nat.le_refl _, by unfold maxLen; omega, rfl, .inr ⟨wr.heap.size, 0, rfl, by simp, fun j u hj => by rw [blk_cell (heap_alloc_new wr _)]; rw [HFC.out] at hj; simpa [fileCells] using hj⟩⟩
                case bbA => (try simp); omega
                case l1A => omega
                case l2A => unfold maxLen; omega
                case kkA =>
                  intro v' w' hown hBk
                  have hb' := hBk w1.heap.size w1 (Nat.le_refl _) (HB.out.alloc (by omega) _)
                  have HO' := Lib.hid hown
                  have HB' := Lib.hid hb'
                  clear hown hBk hb'
                  go_wp2
                  go_roundw
                  case rel => exact ⟨k + 1, v', true, L ++ [x], by omega, by go_num, rfl, rfl, by simp [hLl], by rw [fileCells_app, List.length_append, hLl]; exact HO'.out, HB'.out, HNN.out⟩
                  case measure => simp [intOf]; omega
              | false =>
                replace hLl : L.length = k := hLl
                cases hbf : bytesBefore s.data.toList x.1 with
                | false =>
                  rw [hbf] at hlb2 hns
                  replace hlb2 : Op.bytesLess t.toList s.toList = true := hlb2
                  have hgt : (binOp .gtr 9 (.string t) (.string s)).run Tryz.prog wr = .ok (.bool false) wr := by
                    rw [str_gtr, hlb2, htb]; rfl
                  have HNN := Lib.hid (show (nput f.objs s.data.toList b = (L ++ [x]) ++ nput (f.objs.drop (k + 1)) s.data.toList b) by rw [HN.out, if_neg (by simp), hns, if_neg (by simp)]; simp)
                  clear hns hdr hbf hcv hlb2 htb
                  go_wp2_with (at_builtin; refine wpList_append_rd rfl (.tmp 66) (.tmp 74) 27 rfl w1.heap.size 64 3 40 (.agg #[.string ⟨#[]⟩, .string ⟨#[]⟩, .int .i64 0]) Tryz.underlying27 info_afile rfl (by decide) u _ L.length 1 (fileCells L) (fileCells [x]) rfl rfl (World.ownsRow.alloc HU.out _) ?rdB (fileCells_one _) ?bbB ?l1B ?l2B ?kkB)
                  case rdB => exact ⟨_, 1, rfl, Nat.le_refl _, by unfold maxLen; omega, rfl, .inr ⟨wr.heap.size, 0, rfl, by simp, fun j u hj => by rw [blk_cell (heap_alloc_new wr _)]; rw [HFC.out] at hj; simpa [fileCells] using hj⟩⟩
                  case bbB => (try simp); omega
                  case l1B => omega
                  case l2B => unfold maxLen; omega
                  case kkB =>
                    intro v' w' hown hBk
                    have hb' := hBk w1.heap.size w1 (Nat.le_refl _) (HB.out.alloc (by omega) _)
                    have HO' := Lib.hid hown
                    have HB' := Lib.hid hb'
                    clear hown hBk hb'
                    go_wp2
                    go_roundw
                    case rel => exact ⟨k + 1, v', false, L ++ [x], by omega, by go_num, rfl, rfl, by simp [hLl], by rw [fileCells_app, List.length_append, hLl]; exact HO'.out, HB'.out, HNN.out⟩
                    case measure => simp [intOf]; omega
                | true =>
                  rw [hbf] at hlb2 hns
                  replace hlb2 : Op.bytesLess t.toList s.toList = false := hlb2
                  have hgt : (binOp .gtr 9 (.string t) (.string s)).run Tryz.prog wr = .ok (.bool true) wr := by
                    rw [str_gtr, hlb2, htb]; rfl
                  have HNN := Lib.hid (show (nput f.objs s.data.toList b = (L ++ [(s.data.toList, b)] ++ [x]) ++ f.objs.drop (k + 1)) by rw [HN.out, if_neg (by simp), hns, if_pos rfl]; simp)
                  clear hns hdr hbf hlb2 htb
                  go_wp2_with (at_builtin; refine wpList_append_rd rfl (.tmp 59) (.tmp 64) 27 rfl w1.heap.size 64 3 40 (.agg #[.string ⟨#[]⟩, .string ⟨#[]⟩, .int .i64 0]) Tryz.underlying27 info_afile rfl (by decide) u _ L.length 1 (fileCells L) (fileCells [(s.data.toList, b)]) rfl rfl (World.ownsRow.alloc HU.out _) ?rdC (fileCells_one _) ?bbC ?l1C ?l2C ?kkC)
                  case rdC => exact ⟨_, 1, rfl, Nat.le_refl _, by unfold maxLen; omega, rfl, .inr ⟨wr.heap.size, 0, rfl, by simp, fun j u hj => by rw [blk_cell (heap_alloc_new wr _)]; skip; simpa [fileCells] using hj⟩⟩
                  case bbC => (try simp); omega
                  case l1C => omega
                  case l2C => unfold maxLen; omega
                  case kkC =>
                    intro v2 w2 hown2 hBk2
                    have hb2 := hBk2 w1.heap.size w1 (Nat.le_refl _) (HB.out.alloc (by omega) _)
                    have f0 : w2.cell? ⟨q, 0, none⟩ = some (.slice (some ⟨lb, lo, none⟩) f.objs.length lc) := blk_cell ((hb2.block q (blk_lt HP.out)).trans HP.out)
                    have f1 : w2.cell? ⟨lb, lo + k * 3, none⟩ = some (.string t) := by rw [HTX.out]; exact (hb2.cell (p := ⟨lb, lo + k * 3, none⟩) hlb).trans D1.out
                    have f2 : w2.cell? ⟨lb, lo + k * 3 + 1, none⟩ = some (.string (strB x.2)) := (hb2.cell (p := ⟨lb, lo + k * 3 + 1, none⟩) hlb).trans D2.out
                    have f3 : w2.cell? ⟨lb, lo + k * 3 + 2, none⟩ = some (.int .i64 0) := (hb2.cell (p := ⟨lb, lo + k * 3 + 2, none⟩) hlb).trans D3.out
                    have hsz2 := hb2.size
                    have HO2 := Lib.hid hown2
                    have HB2 := Lib.hid hb2
                    clear hown2 hBk2 hb2 e1 e2 e3 c0 hcv hgt
                    go_wp2_with (at_builtin; refine wpList_append_rd rfl (.tmp 66) (.tmp 74) 27 rfl w1.heap.size 64 3 40 (.agg #[.string ⟨#[]⟩, .string ⟨#[]⟩, .int .i64 0]) Tryz.underlying27 info_afile rfl (by decide) v2 _ (k + 1) 1 (fileCells L ++ fileCells [(s.data.toList, b)]) (fileCells [x]) rfl rfl (World.ownsRow.alloc HO2.out _) ?rdD (fileCells_one _) ?bbD ?l1D ?l2D ?kkD)
                    case rdD => exact ⟨_, 1, rfl, Nat.le_refl _, by unfold maxLen; omega, rfl, .inr ⟨w2.heap.size, 0, rfl, by simp, fun j u hj => by rw [blk_cell (heap_alloc_new w2 _)]; rw [HFC.out] at hj; simpa [fileCells] using hj⟩⟩
                    case bbD => (try simp); omega
                    case l1D => omega
                    case l2D => unfold maxLen; omega
                    case kkD =>
                      intro v' w' hown hBk
                      have hb' := hBk w1.heap.size w1 (Nat.le_refl _) (HB2.out.alloc (by omega) _)
                      have HO' := Lib.hid hown
                      have HB' := Lib.hid hb'
                      clear hown hBk hb'
                      go_wp2
                      go_roundw
                      case rel => exact ⟨k + 1, v', true, L ++ [(s.data.toList, b)] ++ [x], by omega, by go_num, rfl, rfl, by simp [hLl], by rw [fileCells_app, fileCells_app, List.length_append, List.length_append, hLl, List.append_assoc]; exact HO'.out, HB'.out, HNN.out⟩
                      case measure => simp [intOf]; omega
            · have hkn : k = f.objs.length := by omega
              subst hkn
              have HEND := Lib.hid (show (∀ (v : Value) (w4 : World) (L2 : List (List UInt8 × List UInt8)), w4.ownsRow w1.heap.size 64 3 v L2.length (fileCells L2) → Below w1.heap.size w1 w4 → nput f.objs s.data.toList b = L2 → RefTo H w (w4.setCell ⟨q, 0, none⟩ v) q ⟨nput f.objs s.data.toList b, f.left.tail, f.calls + 1⟩) from fun v w4 L2 ho hb he => by
                have hP4 := (hb.block q (blk_lt HP.out)).trans HP.out
                have hqw := blk_lt HP.out
                have hk : Kept (fun k => k < w1.heap.size ∧ k ≠ q) w1 (w4.setCell ⟨q, 0, none⟩ v) := ((Kept.of hb fun k hk => hk.1).setCell (fun h => h.2 rfl) _)
                rw [he]
                refine RefTo.trans HT1.out (Grows.refl _ _ _) (RefAt.set_list (l := L2) H1.out HP.out ((blk_set (i := 0) hP4 _).trans (by simp)) hk ?_ fun k e => ⟨(World.ownsRow.lt ho k e).1, by simpa [World.setCell] using (World.ownsRow.lt ho k e).2⟩)
                have hk4 : Kept (fun k => k ≠ q) w4 (w4.setCell ⟨q, 0, none⟩ v) := (Kept.refl _ w4).setCell (fun h => h rfl) _
                exact Rd.kept (rd_of_own ho) hk4 fun k e ep => by have := (World.ownsRow.lt ho k e).1; omega)
              cases ib with
              | true =>
                replace hLl : L.length = f.objs.length + 1 := hLl
                have HNN := Lib.hid (show (nput f.objs s.data.toList b = L) by rw [HN.out, if_pos rfl, List.drop_length, List.append_nil])
                obtain ⟨ua, uc, hue, _, _⟩ := rd_of_own HU.out
                subst hue
                have f4 : wr.frozen? ⟨q, 0, none⟩ = false := blk_free ((HB.out.block q (blk_lt HP.out)).trans HP.out)
                clear hcv
                go_wp2_with (go_at_call 51; refine (HTO.out _).mono ?_; rintro e w5 ⟨rfl, rfl⟩)
                go_ret
                exact ⟨rfl, HEND.out _ _ L (by have hu := HU.out; rw [hLl] at hu ⊢; exact hu) HB.out HNN.out⟩
              | false =>
                replace hLl : L.length = f.objs.length := hLl
                have HNN := Lib.hid (show (nput f.objs s.data.toList b = L ++ [(s.data.toList, b)]) by rw [HN.out, if_neg (by simp), List.drop_length]; rfl)
                go_wp2_with (at_builtin; refine wpList_append_rd rfl (.tmp 78) (.tmp 83) 27 rfl w1.heap.size 64 3 40 (.agg #[.string ⟨#[]⟩, .string ⟨#[]⟩, .int .i64 0]) Tryz.underlying27 info_afile rfl (by decide) u _ L.length 1 (fileCells L) (fileCells [(s.data.toList, b)]) rfl rfl (World.ownsRow.alloc HU.out _) ?rdE (fileCells_one _) ?bbE ?l1E ?l2E ?kkE)
                case rdE => exact ⟨_, 1, rfl, Nat.le_refl _, by unfold maxLen; omega, rfl, .inr ⟨wr.heap.size, 0, rfl, by simp, fun j u hj => by rw [blk_cell (heap_alloc_new wr _)]; skip; simpa [fileCells] using hj⟩⟩
                case bbE => (try simp); omega
                case l1E => omega
                case l2E => unfold maxLen; omega
                case kkE =>
                  intro v2 w2 hown2 hBk2
                  have hb2 := hBk2 w1.heap.size w1 (Nat.le_refl _) (HB.out.alloc (by omega) _)
                  have HO2 := Lib.hid hown2
                  obtain ⟨ua, uc, hue, _, _⟩ := rd_of_own hown2
                  subst hue
                  have f0 : w2.cell? ⟨q, 0, none⟩ = some (.slice la f.objs.length lc) := blk_cell ((hb2.block q (blk_lt HP.out)).trans HP.out)
                  have f4 : w2.frozen? ⟨q, 0, none⟩ = false := blk_free ((hb2.block q (blk_lt HP.out)).trans HP.out)
                  have HB2 := Lib.hid hb2
                  clear hown2 hBk2 hb2 hcv c0
                  go_wp2_with (go_at_call 51; refine (HTO.out _).mono ?_; rintro e w5 ⟨rfl, rfl⟩)
                  go_ret
                  exact ⟨rfl, HEND.out _ _ (L ++ [(s.data.toList, b)]) (by rw [fileCells_app, List.length_append, hLl]; exact HO2.out) HB2.out HNN.out⟩
end Go.Proofs.YtljjgpjaleekdaaGreatDoor
