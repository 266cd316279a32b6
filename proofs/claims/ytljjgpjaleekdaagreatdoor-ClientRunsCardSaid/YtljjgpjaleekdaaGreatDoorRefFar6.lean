/-
  The document's far store: Get.
-/
import Derived.Test.YtljjgpjaleekdaaGreatDoorRefFar5
import Derived.Lib.ConvBytes
namespace Go.Proofs.YtljjgpjaleekdaaGreatDoor
open Go.RowKit

theorem info_u8 : (Tryz.prog.info? 5).map (fun i => (i.zero, i.size, i.bytes)) = some (some (.int .u8 0), 1, 1) := by kernel_rfl

set_option maxRecDepth 100000 in
set_option maxHeartbeats 2000000 in
set_option linter.unusedSimpArgs false in
theorem part_any (w : World) (va : Option Addr) (vc : Nat) (l : List UInt8) (i c : Nat) (h : RdB w (.slice va l.length vc) l) (hi : i ≤ l.length) (hl : l.length ≤ 140737488355000) :
    Calls Tryz.prog 55 #[.slice va l.length vc, .int .i64 (i : Int), .int .i64 (c : Int)] w fun e w' => ∃ v, e = .returned v ∧ RdB w' v ((l.drop i).take c) ∧ (∀ k, v.ownBlock = some k → w.heap.size ≤ k) ∧ Below w.heap.size w w' := by
  have hvc : l.length ≤ vc := by obtain ⟨_, _, e, h, _⟩ := RdB.form h; cases e; exact h
  obtain ⟨m, hm⟩ : ∃ m, m = min c (l.length - i) := ⟨_, rfl⟩
  have hm1 : min (c : Int) ((l.length : Int) - (i : Int)) = (m : Int) := by omega
  have hm2 : (i : Int) + (m : Int) ≤ (l.length : Int) := by omega
  have hml : m ≤ l.length - i := by omega
  have htk : (l.drop i).take c = (l.drop i).take m := by rw [hm, ← List.length_drop, ← List.take_take, List.take_length]
  rw [htk]
  have hlen : ((l.drop i).take m).length = m := by rw [List.length_take, List.length_drop]; omega
  have hb0 : Below w.heap.size w (w.alloc (.cells #[] 5)) := (Below.refl _ _).alloc (Nat.le_refl _) _
  have HSUB := Lib.hid (Rd.below (sub_rd h i m hi hml) hb0 (Nat.le_refl _))
  have hpm : ((i : Int) + (m : Int)).toNat = i + m := by omega
  have hpv : (i : Int) + (m : Int) ≤ (vc : Int) := by omega
  have hsb : i + m - i = m := by omega
  have HB0 := Lib.hid hb0
  clear h htk hm hb0
  by_cases hvi : vc = i
  · have hm0 : m = 0 := by omega
    subst hm0
    go_enter Tryz.func55, Tryz.ntmps55
    go_wp2_with (at_builtin; refine wpList_append_rd rfl (.tmp 7) (.tmp 18) 31 rfl w.heap.size 5 1 1 (.int .u8 0) Tryz.underlying31 info_u8 rfl (by decide) (.slice (some ⟨w.heap.size, 0, none⟩) 0 0) _ 0 0 [] [] rfl rfl (made_own w _ _) ?rdA (by simp) ?bbA ?l1A ?l2A ?kkA)
    case rdA => exact ⟨_, _, rfl, Nat.zero_le _, by first | exact Nat.zero_le _ | (unfold maxLen; omega), rfl, .inl ⟨rfl, fun h => by first | rfl | omega⟩⟩
    case bbA => simp
    case l1A => omega
    case l2A => unfold maxLen; omega
    case kkA =>
      intro v' w' hown hB
      have hb := hB w.heap.size w (Nat.le_refl _) HB0.out
      have hrd := rd_of_own hown
      have hlt := fun k (e : v'.ownBlock = some k) => (World.ownsRow.lt hown k e).1
      have HR := Lib.hid hrd
      have HL := Lib.hid hlt
      clear hrd hlt hown hB
      go_wp2
      go_ret
      exact ⟨v', rfl, by rw [List.take_zero]; exact HR.out, HL.out, hb⟩
  · go_enter Tryz.func55, Tryz.ntmps55
    go_wp2_with (at_builtin; refine wpList_append_rd rfl (.tmp 7) (.tmp 18) 31 rfl w.heap.size 5 1 1 (.int .u8 0) Tryz.underlying31 info_u8 rfl (by decide) (.slice (some ⟨w.heap.size, 0, none⟩) 0 0) _ 0 m [] (((l.drop i).take m).map bv) rfl rfl (made_own w _ _) ?rdB (bv_oneCell _) ?bbB ?l1B ?l2B ?kkB)
    case rdB => exact HSUB.out
    case bbB => simp
    case l1B => omega
    case l2B => unfold maxLen; omega
    case kkB =>
      intro v' w' hown hB
      have hb := hB w.heap.size w (Nat.le_refl _) HB0.out
      have hrd := rd_of_own hown
      have hlt := fun k (e : v'.ownBlock = some k) => (World.ownsRow.lt hown k e).1
      have HR := Lib.hid hrd
      have HL := Lib.hid hlt
      clear hrd hlt hown hB
      go_wp2
      go_ret
      refine ⟨v', rfl, ?_, HL.out, hb⟩
      unfold RdB
      rw [hlen]
      simpa using HR.out

/-- The bytes of a file of a list that can be read. -/
theorem rd_data {w : World} {la : Option Addr} {lc : Nat} {l : List (List UInt8 × List UInt8)} (h : Rd w 3 (.slice la l.length lc) l.length (fileCells l)) {i : Nat} {x : List UInt8 × List UInt8} (hx : l[i]? = some x) : ∃ lb lo, la = some ⟨lb, lo, none⟩ ∧ w.cell? ⟨lb, lo + i * 3 + 1, none⟩ = some (.string (strB x.2)) := by
  obtain ⟨a, cap, hv, _, _, _, h3⟩ := h
  cases hv
  have hil := (List.getElem?_eq_some_iff.1 hx).1
  rcases h3 with ⟨h0, _⟩ | ⟨b, off, rfl, _, hc⟩
  · omega
  · exact ⟨b, off, rfl, by rw [Nat.add_assoc]; exact hc (i * 3 + 1) _ (fileCells_at hx).2.1⟩

set_option maxRecDepth 100000 in
set_option maxHeartbeats 4000000 in
set_option linter.unusedSimpArgs false in
theorem rget_at {H : Nat → Prop} {w : World} {q : Nat} {f : FR} (h : RefAt H w q f) (hol : f.objs.length < 1000000) (hcl : f.calls < 1000000000000) (s : ByteArray) (at_ cnt : Int) (hdl : ∀ x ∈ f.objs, x.2.length ≤ 1000000) :
    Calls Tryz.prog 37 #[.pointer (some ⟨q, 0, none⟩), .string s, .int .i64 at_, .int .i64 cnt] w fun e w' => ∃ v, e = .returned (.tuple #[v, .int .i64 ((f.get s.data.toList at_ cnt).2 : Int)]) ∧ RefTo H w w' q f.took ∧ RdB w' v (f.get s.data.toList at_ cnt).1 ∧ (∀ k, v.ownBlock = some k → w.heap.size ≤ k) := by
  have HT := Lib.hid (rtake_at h hcl)
  obtain ⟨te, hte⟩ : ∃ te, te = tells f.out (f.getE s.data.toList at_ cnt) := ⟨_, rfl⟩
  have hl1 : (f.get s.data.toList at_ cnt).2 = te := by rw [hte]; rfl
  have hl2 : (f.get s.data.toList at_ cnt).1 = if te = 0 then f.getB s.data.toList at_ cnt else [] := by rw [hte]; rfl
  rw [hl1, hl2]
  obtain ⟨out, hout⟩ : ∃ out, out = f.out := ⟨_, rfl⟩
  rw [← hout] at HT hte
  clear hl1 hl2 hout h
  cases hi : nidx f.objs s.data.toList with
  | none =>
    have hf : nfind f.objs s.data.toList = none := by
      have := nidx_find f.objs s.data.toList
      rw [hi] at this
      cases hx : nfind f.objs s.data.toList with
      | none => rfl
      | some _ => rw [hx] at this; cases this
    have hE : f.getE s.data.toList at_ cnt = 2 := by unfold FR.getE; rw [hf]
    rw [hE] at hte
    have hne0 : te ≠ 0 := fun e => by rw [hte] at e; exact absurd (tells_zero.1 e).2.2 (by decide)
    have hne : ¬ (te : Int) = 0 := by omega
    rw [if_neg hne0]
    have HI := Lib.hid (show nidxI f.objs s.data.toList = -1 by unfold nidxI; rw [hi])
    have HTO := Lib.hid (fun (w : World) => (show Calls Tryz.prog 51 #[.int .i64 out, .int .i64 2] w fun x w' => x = .returned (.int .i64 (te : Int)) ∧ w = w' by have := told_any w out 2; rw [← hte] at this; exact this))
    clear hte hf hE hi hne0
    go_enter Tryz.func37, Tryz.ntmps37
    go_wp2_with (first | (go_at_call 48; refine HT.out.mono ?_; rintro e w1 ⟨rfl, h1, ht1, hs1⟩; have H1 := Lib.hid h1; have HT1 := Lib.hid ht1; have HS1 := Lib.hid hs1; obtain ⟨⟨lv, nv, k1, k2, _⟩, _⟩ := h1; obtain ⟨la, lc, hlv, hlc, hlm, hx1, hx2⟩ := k2; subst hlv; have HP := Lib.hid k1; have HRD := Lib.hid (show Rd w1 3 (.slice la f.objs.length lc) f.objs.length (fileCells f.objs) from ⟨la, lc, rfl, hlc, hlm, hx1, hx2⟩); have c0 : w1.cell? ⟨q, 0, none⟩ = some (.slice la f.objs.length lc) := blk_cell HP.out; clear k1 ht1 hs1 hx1 hx2) | (go_at_call 50; refine (rat_any w1 q _ f.objs s hol (blk_cell HP.out) HRD.out).mono ?_; rw [HI.out]; rintro e w2 ⟨rfl, rfl⟩) | (go_at_call 51; refine (HTO.out _).mono ?_; rintro e w2 ⟨rfl, rfl⟩))
    go_ret2
    exact ⟨_, rfl, ⟨H, H1.out, HT1.out, Grows.refl _ _ _⟩, Rd.nil _ _, fun k e => (nomatch e)⟩
  | some i =>
    obtain ⟨x, hx, hf, hil⟩ := nidx_at f.objs s.data.toList i hi
    have hE : f.getE s.data.toList at_ cnt = if at_ < 0 ∨ (x.2.length : Int) < at_ ∨ cnt < 0 then 1 else 0 := by unfold FR.getE; rw [hf]
    have HI := Lib.hid (show nidxI f.objs s.data.toList = (i : Int) by unfold nidxI; rw [hi])
    have hxl := hdl x (List.mem_of_getElem? hx)
    have hsz : (strB x.2).size = x.2.length := strB_size x.2
    by_cases hbad : at_ < 0 ∨ (x.2.length : Int) < at_ ∨ cnt < 0
    · rw [if_pos hbad] at hE
      rw [hE] at hte
      have hne0 : te ≠ 0 := fun e => by rw [hte] at e; exact absurd (tells_zero.1 e).2.2 (by decide)
      have hne : ¬ (te : Int) = 0 := by omega
      rw [if_neg hne0]
      have HTO := Lib.hid (fun (w : World) => (show Calls Tryz.prog 51 #[.int .i64 out, .int .i64 1] w fun x w' => x = .returned (.int .i64 (te : Int)) ∧ w = w' by have := told_any w out 1; rw [← hte] at this; exact this))
      clear hte hf hE hi hne0
      by_cases q1 : at_ < 0
      · clear hbad
        go_enter Tryz.func37, Tryz.ntmps37
        go_wp2_with (first | (go_at_call 48; refine HT.out.mono ?_; rintro e w1 ⟨rfl, h1, ht1, hs1⟩; have H1 := Lib.hid h1; have HT1 := Lib.hid ht1; have HS1 := Lib.hid hs1; obtain ⟨⟨lv, nv, k1, k2, _⟩, _⟩ := h1; obtain ⟨la, lc, hlv, hlc, hlm, hx1, hx2⟩ := k2; subst hlv; have HP := Lib.hid k1; have HRD := Lib.hid (show Rd w1 3 (.slice la f.objs.length lc) f.objs.length (fileCells f.objs) from ⟨la, lc, rfl, hlc, hlm, hx1, hx2⟩); have c0 : w1.cell? ⟨q, 0, none⟩ = some (.slice la f.objs.length lc) := blk_cell HP.out; clear k1 ht1 hs1 hx1 hx2; have ed := rd_data HRD.out hx; obtain ⟨lb, lo, hla, ed⟩ := ed; subst hla) | (go_at_call 50; refine (rat_any w1 q _ f.objs s hol (blk_cell HP.out) HRD.out).mono ?_; rw [HI.out]; rintro e w2 ⟨rfl, rfl⟩) | (go_at_call 51; refine (HTO.out _).mono ?_; rintro e w2 ⟨rfl, rfl⟩))
        go_ret2
        exact ⟨_, rfl, ⟨H, H1.out, HT1.out, Grows.refl _ _ _⟩, Rd.nil _ _, fun k e => (nomatch e)⟩
      · by_cases q2 : (x.2.length : Int) < at_
        · clear hbad
          go_enter Tryz.func37, Tryz.ntmps37
          go_wp2_with (first | (go_at_call 48; refine HT.out.mono ?_; rintro e w1 ⟨rfl, h1, ht1, hs1⟩; have H1 := Lib.hid h1; have HT1 := Lib.hid ht1; have HS1 := Lib.hid hs1; obtain ⟨⟨lv, nv, k1, k2, _⟩, _⟩ := h1; obtain ⟨la, lc, hlv, hlc, hlm, hx1, hx2⟩ := k2; subst hlv; have HP := Lib.hid k1; have HRD := Lib.hid (show Rd w1 3 (.slice la f.objs.length lc) f.objs.length (fileCells f.objs) from ⟨la, lc, rfl, hlc, hlm, hx1, hx2⟩); have c0 : w1.cell? ⟨q, 0, none⟩ = some (.slice la f.objs.length lc) := blk_cell HP.out; clear k1 ht1 hs1 hx1 hx2; have ed := rd_data HRD.out hx; obtain ⟨lb, lo, hla, ed⟩ := ed; subst hla) | (go_at_call 50; refine (rat_any w1 q _ f.objs s hol (blk_cell HP.out) HRD.out).mono ?_; rw [HI.out]; rintro e w2 ⟨rfl, rfl⟩) | (go_at_call 51; refine (HTO.out _).mono ?_; rintro e w2 ⟨rfl, rfl⟩))
          go_ret2
          exact ⟨_, rfl, ⟨H, H1.out, HT1.out, Grows.refl _ _ _⟩, Rd.nil _ _, fun k e => (nomatch e)⟩
        · have q3 : cnt < 0 := by omega
          clear hbad
          go_enter Tryz.func37, Tryz.ntmps37
          go_wp2_with (first | (go_at_call 48; refine HT.out.mono ?_; rintro e w1 ⟨rfl, h1, ht1, hs1⟩; have H1 := Lib.hid h1; have HT1 := Lib.hid ht1; have HS1 := Lib.hid hs1; obtain ⟨⟨lv, nv, k1, k2, _⟩, _⟩ := h1; obtain ⟨la, lc, hlv, hlc, hlm, hx1, hx2⟩ := k2; subst hlv; have HP := Lib.hid k1; have HRD := Lib.hid (show Rd w1 3 (.slice la f.objs.length lc) f.objs.length (fileCells f.objs) from ⟨la, lc, rfl, hlc, hlm, hx1, hx2⟩); have c0 : w1.cell? ⟨q, 0, none⟩ = some (.slice la f.objs.length lc) := blk_cell HP.out; clear k1 ht1 hs1 hx1 hx2; have ed := rd_data HRD.out hx; obtain ⟨lb, lo, hla, ed⟩ := ed; subst hla) | (go_at_call 50; refine (rat_any w1 q _ f.objs s hol (blk_cell HP.out) HRD.out).mono ?_; rw [HI.out]; rintro e w2 ⟨rfl, rfl⟩) | (go_at_call 51; refine (HTO.out _).mono ?_; rintro e w2 ⟨rfl, rfl⟩))
          go_ret2
          exact ⟨_, rfl, ⟨H, H1.out, HT1.out, Grows.refl _ _ _⟩, Rd.nil _ _, fun k e => (nomatch e)⟩
    · rw [if_neg hbad] at hE
      rw [hE] at hte
      have q1 : ¬ at_ < 0 := by omega
      have q2 : ¬ (x.2.length : Int) < at_ := by omega
      have q3 : ¬ cnt < 0 := by omega
      have HTO := Lib.hid (fun (w : World) => (show Calls Tryz.prog 51 #[.int .i64 out, .int .i64 0] w fun x w' => x = .returned (.int .i64 (te : Int)) ∧ w = w' by have := told_any w out 0; rw [← hte] at this; exact this))
      by_cases h0 : te = 0
      · have hgb : f.getB s.data.toList at_ cnt = (x.2.drop at_.toNat).take cnt.toNat := by unfold FR.getB; rw [hf]
        rw [if_pos h0, hgb]
        subst h0
        obtain ⟨a, rfl⟩ := Int.eq_ofNat_of_zero_le (show 0 ≤ at_ by omega)
        obtain ⟨c, rfl⟩ := Int.eq_ofNat_of_zero_le (show 0 ≤ cnt by omega)
        have hal : a ≤ x.2.length := by omega
        clear hte hf hE hi hbad hgb
        go_enter Tryz.func37, Tryz.ntmps37
        go_wp2_with (first | (go_at_call 48; refine HT.out.mono ?_; rintro e w1 ⟨rfl, h1, ht1, hs1⟩; have H1 := Lib.hid h1; have HT1 := Lib.hid ht1; have HS1 := Lib.hid hs1; obtain ⟨⟨lv, nv, k1, k2, _⟩, _⟩ := h1; obtain ⟨la, lc, hlv, hlc, hlm, hx1, hx2⟩ := k2; subst hlv; have HP := Lib.hid k1; have HRD := Lib.hid (show Rd w1 3 (.slice la f.objs.length lc) f.objs.length (fileCells f.objs) from ⟨la, lc, rfl, hlc, hlm, hx1, hx2⟩); have c0 : w1.cell? ⟨q, 0, none⟩ = some (.slice la f.objs.length lc) := blk_cell HP.out; clear k1 ht1 hs1 hx1 hx2; have ed := rd_data HRD.out hx; obtain ⟨lb, lo, hla, ed⟩ := ed; subst hla; obtain ⟨cv, w5, hcv, hrd, hb5, hcvb⟩ := str_bytes w1 x.2 (by unfold maxLen; omega); obtain ⟨va, vc, hve, _, _⟩ := RdB.form hrd; subst hve; have HRDB := Lib.hid hrd; have HB5 := Lib.hid hb5; clear hrd hb5 hcvb) | (go_at_call 50; refine (rat_any w1 q _ f.objs s hol (blk_cell HP.out) HRD.out).mono ?_; rw [HI.out]; rintro e w2 ⟨rfl, rfl⟩) | (go_at_call 51; refine (HTO.out _).mono ?_; rintro e w2 ⟨rfl, rfl⟩) | (go_at_call 55; refine (part_any w5 va vc x.2 a c HRDB.out hal (by omega)).mono ?_; rintro e w6 ⟨v6, rfl, hr6, hv6, hb6⟩))
        go_ret2
        exact ⟨v6, rfl, RefTo.then ⟨H, H1.out, HT1.out, Grows.refl _ _ _⟩ (HB5.out.trans (hb6.mono HB5.out.size)), hr6, fun k e => by have := hv6 k e; have := HB5.out.size; have := HS1.out; omega⟩
      · rw [if_neg h0]
        have hne : ¬ (te : Int) = 0 := by omega
        clear hte hf hE hi hbad
        go_enter Tryz.func37, Tryz.ntmps37
        go_wp2_with (first | (go_at_call 48; refine HT.out.mono ?_; rintro e w1 ⟨rfl, h1, ht1, hs1⟩; have H1 := Lib.hid h1; have HT1 := Lib.hid ht1; have HS1 := Lib.hid hs1; obtain ⟨⟨lv, nv, k1, k2, _⟩, _⟩ := h1; obtain ⟨la, lc, hlv, hlc, hlm, hx1, hx2⟩ := k2; subst hlv; have HP := Lib.hid k1; have HRD := Lib.hid (show Rd w1 3 (.slice la f.objs.length lc) f.objs.length (fileCells f.objs) from ⟨la, lc, rfl, hlc, hlm, hx1, hx2⟩); have c0 : w1.cell? ⟨q, 0, none⟩ = some (.slice la f.objs.length lc) := blk_cell HP.out; clear k1 ht1 hs1 hx1 hx2; have ed := rd_data HRD.out hx; obtain ⟨lb, lo, hla, ed⟩ := ed; subst hla) | (go_at_call 50; refine (rat_any w1 q _ f.objs s hol (blk_cell HP.out) HRD.out).mono ?_; rw [HI.out]; rintro e w2 ⟨rfl, rfl⟩) | (go_at_call 51; refine (HTO.out _).mono ?_; rintro e w2 ⟨rfl, rfl⟩))
        go_ret2
        exact ⟨_, rfl, ⟨H, H1.out, HT1.out, Grows.refl _ _ _⟩, Rd.nil _ _, fun k e => (nomatch e)⟩
end Go.Proofs.YtljjgpjaleekdaaGreatDoor
