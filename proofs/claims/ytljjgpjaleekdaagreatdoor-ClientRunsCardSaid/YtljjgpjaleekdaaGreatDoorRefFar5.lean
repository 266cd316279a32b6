/-
  The document's far store: Drop.
-/
import Derived.Test.YtljjgpjaleekdaaGreatDoorRefFar4
namespace Go.Proofs.YtljjgpjaleekdaaGreatDoor
open Go.RowKit

/-- The list of files is set anew. -/
theorem RefAt.set_list {H : Nat → Prop} {w w' : World} {q : Nat} {f : FR} {l : List (List UInt8 × List UInt8)} (h : RefAt H w q f) {lv nv lv' : Value} (hp : w.heap[q]? = some (.cells #[lv, nv, .int .i64 (f.calls : Int)] 30 (0, 0)))
    (hp' : w'.heap[q]? = some (.cells #[lv', nv, .int .i64 (f.calls : Int)] 30 (0, 0))) (hk : Kept (fun k => k < w.heap.size ∧ k ≠ q) w w') (hl : Rd w' 3 lv' l.length (fileCells l)) (hb : ∀ k, lv'.ownBlock = some k → w.heap.size ≤ k ∧ k < w'.heap.size) : RefTo H w w' q ⟨l, f.left, f.calls⟩ := by
  obtain ⟨⟨lv0, nv0, h1, h2, h3, h4, h5⟩, hq, lt⟩ := h
  rw [hp] at h1
  simp only [Option.some.injEq, Obj.cells.injEq, and_true] at h1
  have e2 : nv = nv0 := Option.some.inj (show some nv = some nv0 from congrArg (fun a : Array Value => a[1]?) h1)
  subst e2
  refine ⟨fun k => H k ∨ (w.heap.size ≤ k ∧ k < w'.heap.size), ⟨⟨lv', nv, hp', hl, ?_, fun k e => ⟨.inr (hb k e), ?_⟩, fun k e => ⟨.inl (h5 k e).1, (h5 k e).2⟩⟩, .inl hq, ?_⟩, ?_, ?_⟩
  · exact Rd.kept h3 hk fun k e => ⟨lt k (h5 k e).1, (h5 k e).2⟩
  · have := (hb k e).1; have := lt q hq; omega
  · rintro k (hk' | hk')
    · exact Nat.lt_of_lt_of_le (lt k hk') hk.size
    · exact hk'.2
  · exact Kept.mono hk fun k hk' => ⟨hk'.1, fun e => hk'.2 (e ▸ hq)⟩
  · rintro k (hk' | hk')
    · exact .inl hk'
    · exact .inr hk'

set_option maxRecDepth 100000 in
set_option maxHeartbeats 4000000 in
set_option linter.unusedSimpArgs false in
theorem rdrop_at {H : Nat → Prop} {w : World} {q : Nat} {f : FR} (h : RefAt H w q f) (hsrt : Srt f.objs) (hol : f.objs.length < 1000000) (hcl : f.calls < 1000000000000) (s : ByteArray) :
    Calls Tryz.prog 43 #[.pointer (some ⟨q, 0, none⟩), .string s] w fun e w' => e = .returned (.int .i64 ((f.drop s.data.toList).1 : Int)) ∧ RefTo H w w' q (f.drop s.data.toList).2 := by
  have HT := Lib.hid (rtake_at h hcl)
  clear h
  cases hi : nidx f.objs s.data.toList with
  | none =>
    have hf : nfind f.objs s.data.toList = none := by
      have := nidx_find f.objs s.data.toList
      rw [hi] at this
      cases hx : nfind f.objs s.data.toList with
      | none => rfl
      | some _ => rw [hx] at this; cases this
    have e1 : (f.drop s.data.toList).1 = tells f.out 2 := by unfold FR.drop FR.dropE; rw [hf]; rfl
    have e2 : (f.drop s.data.toList).2 = f.took := by
      unfold FR.drop FR.does
      dsimp only
      split
      · rfl
      · exact dropD_none (f := f.took) hf
    rw [e1, e2]
    have HI := Lib.hid (show nidxI f.objs s.data.toList = -1 by unfold nidxI; rw [hi])
    clear e1 e2 hf hi
    go_enter Tryz.func43, Tryz.ntmps43
    go_wp2_with (first | (go_at_call 48; refine HT.out.mono ?_; rintro e w1 ⟨rfl, h1, ht1, hs1⟩; have H1 := Lib.hid h1; have HT1 := Lib.hid ht1; clear h1 ht1 hs1) | (go_at_call 50; (obtain ⟨lv, nv, k1, k2, _⟩ := H1.out.ex); refine (rat_any w1 q lv f.objs s hol (blk_cell k1) k2).mono ?_; rw [HI.out]; rintro e w2 ⟨rfl, rfl⟩) | (go_at_call 51; refine (told_any _ f.out 2).mono ?_; rintro e w2 ⟨rfl, rfl⟩))
    go_ret
    exact ⟨rfl, H, H1.out, HT1.out, Grows.refl _ _ _⟩
  | some i =>
    obtain ⟨x, _, hf, hil⟩ := nidx_at f.objs s.data.toList i hi
    have e1 : (f.drop s.data.toList).1 = tells f.out 0 := by unfold FR.drop FR.dropE; rw [hf]; rfl
    have HI := Lib.hid (show nidxI f.objs s.data.toList = (i : Int) by unfold nidxI; rw [hi])
    by_cases ho : f.out = 1
    · have e2 : (f.drop s.data.toList).2 = f.took := by unfold FR.drop FR.does; dsimp only; rw [if_pos ho]
      rw [e1, e2]
      rw [ho] at HT ⊢
      clear e1 e2 hf hi ho
      go_enter Tryz.func43, Tryz.ntmps43
      go_wp2_with (first | (go_at_call 48; refine HT.out.mono ?_; rintro e w1 ⟨rfl, h1, ht1, hs1⟩; have H1 := Lib.hid h1; have HT1 := Lib.hid ht1; clear h1 ht1 hs1) | (go_at_call 50; (obtain ⟨lv, nv, k1, k2, _⟩ := H1.out.ex); refine (rat_any w1 q lv f.objs s hol (blk_cell k1) k2).mono ?_; rw [HI.out]; rintro e w2 ⟨rfl, rfl⟩) | (go_at_call 51; refine (told_any _ 1 0).mono ?_; rintro e w2 ⟨rfl, rfl⟩))
      go_ret
      exact ⟨rfl, H, H1.out, HT1.out, Grows.refl _ _ _⟩
    · have e2 : (f.drop s.data.toList).2 = ⟨f.objs.take i ++ f.objs.drop (i + 1), f.left.tail, f.calls + 1⟩ := by
        unfold FR.drop FR.does FR.dropD
        dsimp only
        rw [if_neg ho]
        show FR.mk (nwithout f.objs s.data.toList) _ _ = _
        rw [nwithout_at f.objs _ i hsrt hi]
        rfl
      rw [e1, e2]
      have hob : (f.out == 1) = false := by simpa using ho
      obtain ⟨out, hout⟩ : ∃ out, out = f.out := ⟨_, rfl⟩
      rw [← hout] at HT hob ho ⊢
      clear e1 e2 hf hi hout
      go_enter Tryz.func43, Tryz.ntmps43
      go_wp2_with (first | (go_at_call 48; refine HT.out.mono ?_; rintro e w1 ⟨rfl, h1, ht1, hs1⟩; have H1 := Lib.hid h1; have HT1 := Lib.hid ht1; obtain ⟨⟨lv, nv, k1, k2, _⟩, _⟩ := h1; obtain ⟨la, lc, hlv, hlc, hlm, hx1, hx2⟩ := k2; subst hlv; have hlc2 : i ≤ lc := (by have hq : f.objs.length ≤ lc := hlc; omega); have HP := Lib.hid k1; have HRD := Lib.hid (show Rd w1 3 (.slice la f.objs.length lc) f.objs.length (fileCells f.objs) from ⟨la, lc, rfl, hlc, hlm, hx1, hx2⟩); clear k1 ht1 hs1 hx1 hx2; have hb0 : Below w1.heap.size w1 (w1.alloc (.cells #[] 64)) := (Below.refl _ _).alloc (Nat.le_refl _) _; have cc0 : (w1.alloc (.cells #[] 64)).cell? ⟨q, 0, none⟩ = some (.slice la f.objs.length lc) := blk_cell ((hb0.block q (blk_lt HP.out)).trans HP.out)) | (go_at_call 50; refine (rat_any w1 q _ f.objs s hol (blk_cell HP.out) HRD.out).mono ?_; rw [HI.out]; rintro e w2 ⟨rfl, rfl⟩) | (at_builtin; refine wpList_append_rd rfl (.tmp 19) (.tmp 25) 27 rfl w1.heap.size 64 3 40 (.agg #[.string ⟨#[]⟩, .string ⟨#[]⟩, .int .i64 0]) Tryz.underlying27 info_afile rfl (by decide) (.slice (some ⟨w1.heap.size, 0, none⟩) 0 0) (.slice la i lc) 0 i [] (fileCells (f.objs.take i)) rfl rfl (made_own w1 _ _) ((rd_files_front HRD.out i (by omega)).below hb0 (Nat.le_refl _)) (fileCells_one _) ?bb ?l1 ?l2 ?kk))
      case bb => simp
      case l1 => omega
      case l2 => unfold maxLen; omega
      case kk =>
        intro v2 w3 hown2 hB2
        have hb2 := hB2 w1.heap.size w1 (Nat.le_refl _) hb0
        have cc3 : w3.cell? ⟨q, 0, none⟩ = some (.slice la f.objs.length lc) := blk_cell ((hb2.block q (blk_lt HP.out)).trans HP.out)
        have HO2 := Lib.hid hown2
        have HB2 := Lib.hid hb2
        have HSZ := Lib.hid hb2.size
        clear hown2 hB2 hb2 hb0 cc0
        have hlcc : f.objs.length ≤ lc := hlc
        have hin : (0 : Int) ≤ (i : Int) + 1 := by omega
        have htn : ((i : Int) + 1).toNat = i + 1 := by omega
        have hle1 : (i : Int) + 1 ≤ (f.objs.length : Int) := by omega
        by_cases hlci : lc = i + 1
        · have hlen0 : f.objs.length = i + 1 := by omega
          have hdr : f.objs.drop (i + 1) = [] := List.drop_of_length_le (by omega)
          go_wp2_with (first | (go_at_call 51; refine (told_any _ out 0).mono ?_; rintro e w2 ⟨rfl, rfl⟩) | (at_builtin; refine wpList_append_rd rfl (.tmp 28) (.tmp 35) 27 rfl w1.heap.size 64 3 40 (.agg #[.string ⟨#[]⟩, .string ⟨#[]⟩, .int .i64 0]) Tryz.underlying27 info_afile rfl (by decide) v2 _ i 0 (fileCells (f.objs.take i)) [] rfl rfl HO2.out ?rda (by simp) HSZ.out ?l1a ?l2a ?kka))
          case rda => exact ⟨_, _, rfl, Nat.zero_le _, Nat.zero_le _, rfl, .inl ⟨rfl, fun _ => rfl⟩⟩
          case l1a => omega
          case l2a => unfold maxLen; omega
          case kka =>
            intro v3 w4 hown3 hB3
            have hb3 := hB3 w1.heap.size w1 (Nat.le_refl _) HB2.out
            have hlt3 := fun k (e : v3.ownBlock = some k) => World.ownsRow.lt hown3 k e
            have hrd3 := rd_of_own hown3
            obtain ⟨va3, vc3, rfl, _, _⟩ := rd_of_own hown3
            have hP4 := (hb3.block q (blk_lt HP.out)).trans HP.out
            have kc4 : w4.cell? ⟨q, 0, none⟩ = some (.slice la f.objs.length lc) := blk_cell hP4
            have kf4 : w4.frozen? ⟨q, 0, none⟩ = false := blk_free hP4
            have HP4 := Lib.hid hP4
            have HB3 := Lib.hid hb3
            have HLT3 := Lib.hid hlt3
            have HRD3 := Lib.hid hrd3
            clear hP4 hb3 hlt3 hrd3 hown3 hB3
            go_wp2_with (go_at_call 51; refine (told_any _ out 0).mono ?_; rintro e w2 ⟨rfl, rfl⟩)
            go_ret
            have hqw := blk_lt HP.out
            have hk : Kept (fun k => k < w1.heap.size ∧ k ≠ q) w1 (w4.setCell ⟨q, 0, none⟩ (.slice va3 i vc3)) := ((Kept.of HB3.out fun k hk => hk.1).setCell (fun h => h.2 rfl) _)
            refine ⟨rfl, RefTo.trans HT1.out (Grows.refl _ _ _) (RefAt.set_list (l := f.objs.take i ++ f.objs.drop (i + 1)) H1.out HP.out ((blk_set (i := 0) HP4.out _).trans (by simp)) hk ?_ fun k e => ⟨(HLT3.out k e).1, by simpa [World.setCell] using (HLT3.out k e).2⟩)⟩
            have hlen : (f.objs.take i ++ f.objs.drop (i + 1)).length = i := by rw [List.length_append, List.length_take, List.length_drop]; omega
            rw [hlen, fileCells_app]
            have hk4 : Kept (fun k => k ≠ q) w4 (w4.setCell ⟨q, 0, none⟩ (.slice va3 i vc3)) := (Kept.refl _ w4).setCell (fun h => h rfl) _
            rw [hdr, show fileCells ([] : List (List UInt8 × List UInt8)) = [] from rfl, List.append_nil]
            exact Rd.kept HRD3.out hk4 fun k e ep => by have := (HLT3.out k e).1; omega
        · have hmm : f.objs.length - (i + 1) + (i + 1) = f.objs.length := by omega
          go_wp2_with (first | (go_at_call 51; refine (told_any _ out 0).mono ?_; rintro e w2 ⟨rfl, rfl⟩) | (at_builtin; refine wpList_append_rd rfl (.tmp 28) (.tmp 35) 27 rfl w1.heap.size 64 3 40 (.agg #[.string ⟨#[]⟩, .string ⟨#[]⟩, .int .i64 0]) Tryz.underlying27 info_afile rfl (by decide) v2 _ i (f.objs.length - (i + 1)) (fileCells (f.objs.take i)) (fileCells (f.objs.drop (i + 1))) rfl rfl HO2.out ?rdb (fileCells_one _) HSZ.out ?l1b ?l2b ?kkb))
          case rdb => exact (rd_files_back HRD.out (i + 1) (by omega)).below HB2.out (Nat.le_refl _)
          case l1b => omega
          case l2b => unfold maxLen; omega
          case kkb =>
            intro v3 w4 hown3 hB3
            have hb3 := hB3 w1.heap.size w1 (Nat.le_refl _) HB2.out
            have hlt3 := fun k (e : v3.ownBlock = some k) => World.ownsRow.lt hown3 k e
            have hrd3 := rd_of_own hown3
            obtain ⟨va3, vc3, rfl, _, _⟩ := rd_of_own hown3
            have hP4 := (hb3.block q (blk_lt HP.out)).trans HP.out
            have kc4 : w4.cell? ⟨q, 0, none⟩ = some (.slice la f.objs.length lc) := blk_cell hP4
            have kf4 : w4.frozen? ⟨q, 0, none⟩ = false := blk_free hP4
            have HP4 := Lib.hid hP4
            have HB3 := Lib.hid hb3
            have HLT3 := Lib.hid hlt3
            have HRD3 := Lib.hid hrd3
            clear hP4 hb3 hlt3 hrd3 hown3 hB3
            go_wp2_with (go_at_call 51; refine (told_any _ out 0).mono ?_; rintro e w2 ⟨rfl, rfl⟩)
            go_ret
            have hqw := blk_lt HP.out
            have hk : Kept (fun k => k < w1.heap.size ∧ k ≠ q) w1 (w4.setCell ⟨q, 0, none⟩ (.slice va3 (i + (f.objs.length - (i + 1))) vc3)) := ((Kept.of HB3.out fun k hk => hk.1).setCell (fun h => h.2 rfl) _)
            refine ⟨rfl, RefTo.trans HT1.out (Grows.refl _ _ _) (RefAt.set_list (l := f.objs.take i ++ f.objs.drop (i + 1)) H1.out HP.out ((blk_set (i := 0) HP4.out _).trans (by simp)) hk ?_ fun k e => ⟨(HLT3.out k e).1, by simpa [World.setCell] using (HLT3.out k e).2⟩)⟩
            have hlen : (f.objs.take i ++ f.objs.drop (i + 1)).length = i + (f.objs.length - (i + 1)) := by rw [List.length_append, List.length_take, List.length_drop]; omega
            rw [hlen, fileCells_app]
            have hk4 : Kept (fun k => k ≠ q) w4 (w4.setCell ⟨q, 0, none⟩ (.slice va3 (i + (f.objs.length - (i + 1))) vc3)) := (Kept.refl _ w4).setCell (fun h => h rfl) _
            exact Rd.kept HRD3.out hk4 fun k e ep => by have := (HLT3.out k e).1; omega
end Go.Proofs.YtljjgpjaleekdaaGreatDoor
