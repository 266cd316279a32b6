/-
  What the document's Norm does, for every list of operations.
-/
import Derived.Test.YtpbmacbogmnokaaOpsIns
import Derived.Deep.QuietTactic
import Derived.BigQuiet
import Derived.OwnWalk
namespace Go.Proofs.Ytpbmacbogmnokaa
open Go.RowKit

theorem take_more {l : List Ope} {i : Nat} (hi : i < l.length) : normL (l.take (i + 1)) = insO (l.getD i Ope.none_) (normL (l.take i)) := by
  rw [List.take_succ_eq_append_getElem hi, normL_snoc]
  simp [List.getD, hi]

theorem cmp_more {l : List Ope} {o : Ope} {k : Nat} (h : ∀ j, j < k → cmpL (l.getD j Ope.none_).key o.key = -1) (h2 : cmpL (l.getD k Ope.none_).key o.key = -1) : ∀ j, j < k + 1 → cmpL (l.getD j Ope.none_).key o.key = -1 := by
  intro j hj
  rcases Nat.lt_or_ge j k with h1 | h1
  · exact h j h1
  · obtain rfl : j = k := by omega
    exact h2

theorem norm_take_len (l : List Ope) (i : Nat) : (normL (l.take i)).length ≤ i := Nat.le_trans (normL_len _) (by rw [List.length_take]; omega)

set_option maxRecDepth 100000 in
set_option maxHeartbeats 8000000 in
theorem rnorm_any (v : Value) (l : List Ope) (w : World) (hv : RdO w v l) (hn : l.length ≤ 100000) :
    Calls Try.prog 28 #[v] w (RetO w.heap.size w (normL l)) := by
  obtain ⟨a, cap, rfl, hc1, hc2⟩ := hv.form
  unfold maxLen at hc2
  go_enter Try.func28, Try.ntmps28
  go_wp2
  go_loopw [3, 4] (fun u i wr => ∃ (k : Nat) (u' : Value), k ≤ l.length ∧ u' = u ∧ i = .int .i64 k ∧ OwnO wr w.heap.size 43 u' (normL (l.take k)) ∧ Below w.heap.size w wr) (fun _ i _ => l.length - (intOf i).toNat)
  case atStart => exact ⟨0, _, Nat.zero_le _, rfl, rfl, OwnO.nil _ _ _, Below.refl _ _⟩
  case round =>
    obtain ⟨i, u, hk, rfl, rfl, hu, hb⟩ := hrel
    by_cases hlt : i < l.length
    · obtain ⟨b, off, rfl, hbw, hcells⟩ := hv.at_ (by intro h; subst h; simp at hlt)
      obtain ⟨d0, d1, d2⟩ := hcells i hlt
      have e0 := (hb.cell (p := ⟨b, off + i * 3, none⟩) hbw).trans d0
      have e1 := (hb.cell (p := ⟨b, off + i * 3 + 1, none⟩) hbw).trans d1
      have e2 := (hb.cell (p := ⟨b, off + i * 3 + 2, none⟩) hbw).trans d2
      have HT := Lib.hid (take_more hlt)
      have hll := norm_take_len l i
      clear d0 d1 d2 hcells
      generalize l.getD i Ope.none_ = o at *
      generalize hL : normL (l.take i) = L at *
      have HL := Lib.hid hL
      clear hL
      obtain ⟨ua, ucap, rfl, hu1, hu2⟩ := hu.form
      unfold maxLen at hu2
      have HU := Lib.hid hu
      have HB := Lib.hid hb
      have HV := Lib.hid hv
      clear hu hb hv
      obtain ⟨wa, hwa⟩ : ∃ wa, wa = wr := ⟨_, rfl⟩
      subst hwa
      go_wp2
      go_loopw [5] (fun kk w2 => ∃ (k : Nat), k ≤ L.length ∧ kk = .int .i64 k ∧ Hid (∀ j, j < k → cmpL (L.getD j Ope.none_).key o.key = -1) ∧ Below wa.heap.size wa w2) (fun kk _ => L.length - (intOf kk).toNat)
      case atStart => exact ⟨0, Nat.zero_le _, rfl, Lib.hid (fun j h => by omega), Below.refl _ _⟩
      case round =>
        obtain ⟨k, hkl, rfl, HK, hc⟩ := hrel
        have HC := Lib.hid hc
        clear hc
        have c1o := (HC.out.cell (p := ⟨b, off + i * 3 + 1, none⟩) (by have := HB.out.size; simp; omega)).trans e1
        have HBR : Hid (b < wr.heap.size) := Lib.hid (by have := HB.out.size; have := HC.out.size; omega)
        have c0o := (HC.out.cell (p := ⟨b, off + i * 3, none⟩) (by have := HB.out.size; simp; omega)).trans e0
        have c2o := (HC.out.cell (p := ⟨b, off + i * 3 + 2, none⟩) (by have := HB.out.size; simp; omega)).trans e2
        by_cases hkL : k < L.length
        · obtain ⟨g, gcap, hgv, _, _, hg1, hg2, hgc, hgf⟩ := HU.out.where_ (by intro h; subst h; simp at hkL)
          cases hgv
          obtain ⟨x0, x1, x2⟩ := hgc k hkL
          have c1x := (HC.out.cell (p := ⟨g, k * 3 + 1, none⟩) hg2).trans x1
          have c0x := (HC.out.cell (p := ⟨g, k * 3, none⟩) hg2).trans x0
          have c2x := (HC.out.cell (p := ⟨g, k * 3 + 2, none⟩) hg2).trans x2
          have f0x := (HC.out.frozen (p := ⟨g, k * 3, none⟩) hg2).trans (hgf _)
          have f1x := (HC.out.frozen (p := ⟨g, k * 3 + 1, none⟩) hg2).trans (hgf _)
          have f2x := (HC.out.frozen (p := ⟨g, k * 3 + 2, none⟩) hg2).trans (hgf _)
          have HS1 := Lib.hid (fun h => @insO_same L o k hkL HK.out h)
          have HS2 := Lib.hid (fun h => @insO_more L o k hkL HK.out h)
          have HM := Lib.hid (@cmp_more L o k HK.out)
          clear hgc x0 x1 x2
          generalize L.getD k Ope.none_ = x at *
          by_cases hcmp : cmpL x.key o.key = -1
          · have hless := less_yes hcmp
            have HN := Lib.hid (HM.out hcmp)
            clear hcmp
            go_wp2
            go_quiet (fail)
            go_wp2
            refine ⟨⟨k + 1, by omega, by go_num, HN, ?_⟩, ?_⟩
            · exact below_drewN HC.out _
            · simp [intOf]; omega
          · have hless := less_no hcmp
            by_cases hsame : x.key = o.key
            · have hs := same_yes hsame
              have HS := Lib.hid (HS1.out hsame)
              clear hsame hcmp
              go_wp2
              go_quiet (fail)
              go_wp2
              go_quiet (fail)
              go_wp2
              refine ⟨⟨i + 1, _, by omega, rfl, by go_num, ?_, ?_⟩, ?_⟩
              · have h1 := fun n => OwnO.stored (OwnO.below (OwnO.below HU.out HC.out (Nat.le_refl _)) (below_drewN (Below.refl wr.heap.size wr) n) (Nat.le_refl _)) k hkL o
                rw [HT.out, HS.out]
                simp only [List.length_set] at h1
                exact h1 _
              · have hbw := HB.out.trans (HC.out.mono HB.out.size)
                exact (((below_drewN hbw _).setCell hg1 _).setCell hg1 _).setCell hg1 _
              · simp [intOf]; omega
            · have hs := same_no hsame
              have HS := Lib.hid (HS2.out hcmp hsame)
              clear hsame hcmp
              go_wp2
              go_quiet (fail)
              go_wp2
              go_quiet (fail)
              go_wp2_with (at_builtin; refine wpList_append_rd rfl (.tmp 56) (.tmp 59) 22 rfl wr.heap.size 43 3 40 (.agg #[.int .i64 0, .string ⟨#[]⟩, .string ⟨#[]⟩]) Try.underlying22 info_op rfl (by decide) (.slice (some ⟨wr.heap.size, 0, none⟩) 0 0) _ 0 k [] ((L.take k).flatMap Ope.cells) rfl rfl (OwnO.made _ wr.heap.size (Nat.le_refl _)) ?rdPA (opFlat_one _) ?bbPA ?l1PA ?l2PA ?kkPA)
              case rdPA => exact (opFront (Rd.below (Rd.below (rd_of_own HU.out) HC.out (Nat.le_refl _)) (((below_drewN (Below.refl _ _) _)).alloc (Nat.le_refl _) _) (Nat.le_refl _)) k hkl)
              case bbPA => simp
              case l1PA => omega
              case l2PA => (unfold maxLen; omega)
              case kkPA =>
                intro vPA wPA hown hBk
                have hb' := hBk wr.heap.size wr (Nat.le_refl _) (((below_drewN (Below.refl _ _) _)).alloc (Nat.le_refl _) _)
                have HOPA := Lib.hid (show wPA.ownsRow wr.heap.size 43 3 vPA k ((L.take k).flatMap Ope.cells) by simpa using hown)
                have HBPA := Lib.hid hb'
                have g0 := (HBPA.out.cell (p := ⟨b, off + i * 3, none⟩) HBR.out).trans c0o
                have g1 := (HBPA.out.cell (p := ⟨b, off + i * 3 + 1, none⟩) HBR.out).trans c1o
                have g2 := (HBPA.out.cell (p := ⟨b, off + i * 3 + 2, none⟩) HBR.out).trans c2o
                clear hown hBk hb'
                go_wp2_with (at_builtin; refine wpList_append_rd rfl (.tmp 61) (.tmp 66) 22 rfl wr.heap.size 43 3 40 (.agg #[.int .i64 0, .string ⟨#[]⟩, .string ⟨#[]⟩]) Try.underlying22 info_op rfl (by decide) vPA _ k 1 ((L.take k).flatMap Ope.cells) ([o].flatMap Ope.cells) rfl rfl (World.ownsRow.alloc HOPA.out _) ?rdPB (opFlat_one _) ?bbPB ?l1PB ?l2PB ?kkPB)
                case rdPB => (rw [opFlat_one_]; exact one_op _ o)
                case bbPB => (have := HBPA.out.size; simp; omega)
                case l1PB => omega
                case l2PB => (unfold maxLen; omega)
                case kkPB =>
                  intro vPB wPB hown hBk
                  have hb' := hBk wr.heap.size wr (Nat.le_refl _) (HBPA.out.alloc HBPA.out.size _)
                  have HOPB := Lib.hid hown
                  have HBPB := Lib.hid hb'
                  clear hown hBk hb'
                  go_wp2_with (at_builtin; refine wpList_append_rd rfl (.tmp 68) (.tmp 71) 22 rfl wr.heap.size 43 3 40 (.agg #[.int .i64 0, .string ⟨#[]⟩, .string ⟨#[]⟩]) Try.underlying22 info_op rfl (by decide) vPB _ (k + 1) (L.length - k) ((L.take k).flatMap Ope.cells ++ [o].flatMap Ope.cells) ((L.drop k).flatMap Ope.cells) rfl rfl HOPB.out ?rdPC (opFlat_one _) ?bbPC ?l1PC ?l2PC ?kkPC)
                  case rdPC => (have := opRest (Rd.below (Rd.below (rd_of_own HU.out) HC.out (Nat.le_refl _)) HBPB.out (Nat.le_refl _)) k hkl; rw [Nat.zero_add] at this; exact this)
                  case bbPC => exact HBPB.out.size
                  case l1PC => omega
                  case l2PC => (unfold maxLen; omega)
                  case kkPC =>
                    intro vPC wPC hown hBk
                    have hb' := hBk wr.heap.size wr (Nat.le_refl _) HBPB.out
                    have HOPC := Lib.hid hown
                    have HBPC := Lib.hid hb'
                    clear hown hBk hb'
                    go_wp2
                    refine ⟨⟨i + 1, vPC, by omega, rfl, by go_num, ?_, ?_⟩, ?_⟩
                    · have hlen : k + 1 + (L.length - k) = (normL (l.take (i + 1))).length := by rw [HT.out, HS.out]; simp only [List.length_append, List.length_take, List.length_drop, List.length_cons, List.length_nil]; omega
                      have hx := own_mono HOPC.out (Nat.le_trans HB.out.size HC.out.size)
                      unfold OwnO
                      rw [← hlen, HT.out, HS.out, opFlat_app, opFlat_app]
                      simpa using hx
                    · exact (HB.out.trans (HC.out.mono HB.out.size)).trans (HBPC.out.mono (Nat.le_trans HB.out.size HC.out.size))
                    · simp [intOf]; omega
        · obtain rfl : k = L.length := by omega
          have HS := Lib.hid (insO_last HK.out)
          rcases HU.out.kind with ⟨hq1, hq2⟩ | ⟨g, gcap, hgv, _, _, hg1, hg2⟩
          · subst hq2
            cases hq1
            have hbr := HBR.out
            go_wp2
            go_quiet (fail)
            go_wp2
            go_quiet (fail)
            go_wp2_with (at_builtin; refine wpList_append_rd rfl (.tmp 56) (.tmp 59) 22 rfl wr.heap.size 43 3 40 (.agg #[.int .i64 0, .string ⟨#[]⟩, .string ⟨#[]⟩]) Try.underlying22 info_op rfl (by decide) (.slice (some ⟨wr.heap.size, 0, none⟩) 0 0) _ 0 0 [] (([] : List Ope).flatMap Ope.cells) rfl rfl (OwnO.made _ wr.heap.size (Nat.le_refl _)) ?rdNA (opFlat_one _) ?bbNA ?l1NA ?l2NA ?kkNA)
            case rdNA => exact (opFront (Rd.below (Rd.below (rd_of_own HU.out) HC.out (Nat.le_refl _)) (((below_drewN (Below.refl _ _) _)).alloc (Nat.le_refl _) _) (Nat.le_refl _)) _ (Nat.le_refl _))
            case bbNA => simp
            case l1NA => omega
            case l2NA => (unfold maxLen; omega)
            case kkNA =>
              intro vNA wNA hown hBk
              have hb' := hBk wr.heap.size wr (Nat.le_refl _) (((below_drewN (Below.refl _ _) _)).alloc (Nat.le_refl _) _)
              have HONA := Lib.hid (show wNA.ownsRow wr.heap.size 43 3 vNA 0 (([] : List Ope).flatMap Ope.cells) by simpa using hown)
              have HBNA := Lib.hid hb'
              have g0 := (HBNA.out.cell (p := ⟨b, off + i * 3, none⟩) HBR.out).trans c0o
              have g1 := (HBNA.out.cell (p := ⟨b, off + i * 3 + 1, none⟩) HBR.out).trans c1o
              have g2 := (HBNA.out.cell (p := ⟨b, off + i * 3 + 2, none⟩) HBR.out).trans c2o
              clear hown hBk hb'
              go_wp2_with (at_builtin; refine wpList_append_rd rfl (.tmp 61) (.tmp 66) 22 rfl wr.heap.size 43 3 40 (.agg #[.int .i64 0, .string ⟨#[]⟩, .string ⟨#[]⟩]) Try.underlying22 info_op rfl (by decide) vNA _ 0 1 (([] : List Ope).flatMap Ope.cells) ([o].flatMap Ope.cells) rfl rfl (World.ownsRow.alloc HONA.out _) ?rdNB (opFlat_one _) ?bbNB ?l1NB ?l2NB ?kkNB)
              case rdNB => (rw [opFlat_one_]; exact one_op _ o)
              case bbNB => (have := HBNA.out.size; simp; omega)
              case l1NB => omega
              case l2NB => (unfold maxLen; omega)
              case kkNB =>
                intro vNB wNB hown hBk
                have hb' := hBk wr.heap.size wr (Nat.le_refl _) (HBNA.out.alloc HBNA.out.size _)
                have HONB := Lib.hid hown
                have HBNB := Lib.hid hb'
                clear hown hBk hb'
                go_wp2_with (at_builtin; refine wpList_append_rd rfl (.tmp 68) (.tmp 71) 22 rfl wr.heap.size 43 3 40 (.agg #[.int .i64 0, .string ⟨#[]⟩, .string ⟨#[]⟩]) Try.underlying22 info_op rfl (by decide) vNB _ (0 + 1) (0) (([] : List Ope).flatMap Ope.cells ++ [o].flatMap Ope.cells) (([] : List Ope).flatMap Ope.cells) rfl rfl HONB.out ?rdNC (opFlat_one _) ?bbNC ?l1NC ?l2NC ?kkNC)
                case rdNC => exact rdNone _ _ _ (Nat.zero_le _) (fun _ => rfl)
                case bbNC => exact HBNB.out.size
                case l1NC => omega
                case l2NC => (unfold maxLen; omega)
                case kkNC =>
                  intro vNC wNC hown hBk
                  have hb' := hBk wr.heap.size wr (Nat.le_refl _) HBNB.out
                  have HONC := Lib.hid hown
                  have HBNC := Lib.hid hb'
                  clear hown hBk hb'
                  go_wp2
                  refine ⟨⟨i + 1, vNC, by omega, rfl, by go_num, ?_, ?_⟩, ?_⟩
                  · have hlen : 0 + 1 + (0) = (normL (l.take (i + 1))).length := by rw [HT.out, HS.out]; simp only [List.length_append, List.length_take, List.length_drop, List.length_cons, List.length_nil]; omega
                    have hx := own_mono HONC.out (Nat.le_trans HB.out.size HC.out.size)
                    unfold OwnO
                    rw [← hlen, HT.out, HS.out, opFlat_app, opFlat_app]
                    simpa using hx
                  · exact (HB.out.trans (HC.out.mono HB.out.size)).trans (HBNC.out.mono (Nat.le_trans HB.out.size HC.out.size))
                  · simp [intOf]; omega
          · cases hgv
            rcases Nat.lt_or_ge L.length ucap with hcap | hcap
            all_goals
              go_wp2
              go_quiet (fail)
              go_wp2
              go_quiet (fail)
              go_wp2_with (at_builtin; refine wpList_append_rd rfl (.tmp 56) (.tmp 59) 22 rfl wr.heap.size 43 3 40 (.agg #[.int .i64 0, .string ⟨#[]⟩, .string ⟨#[]⟩]) Try.underlying22 info_op rfl (by decide) (.slice (some ⟨wr.heap.size, 0, none⟩) 0 0) _ 0 L.length [] ((L.take L.length).flatMap Ope.cells) rfl rfl (OwnO.made _ wr.heap.size (Nat.le_refl _)) ?rdGA (opFlat_one _) ?bbGA ?l1GA ?l2GA ?kkGA)
              case rdGA => exact (opFront (Rd.below (Rd.below (rd_of_own HU.out) HC.out (Nat.le_refl _)) (((below_drewN (Below.refl _ _) _)).alloc (Nat.le_refl _) _) (Nat.le_refl _)) L.length (Nat.le_refl _))
              case bbGA => simp
              case l1GA => omega
              case l2GA => (unfold maxLen; omega)
              case kkGA =>
                intro vGA wGA hown hBk
                have hb' := hBk wr.heap.size wr (Nat.le_refl _) (((below_drewN (Below.refl _ _) _)).alloc (Nat.le_refl _) _)
                have HOGA := Lib.hid (show wGA.ownsRow wr.heap.size 43 3 vGA L.length ((L.take L.length).flatMap Ope.cells) by simpa using hown)
                have HBGA := Lib.hid hb'
                have g0 := (HBGA.out.cell (p := ⟨b, off + i * 3, none⟩) HBR.out).trans c0o
                have g1 := (HBGA.out.cell (p := ⟨b, off + i * 3 + 1, none⟩) HBR.out).trans c1o
                have g2 := (HBGA.out.cell (p := ⟨b, off + i * 3 + 2, none⟩) HBR.out).trans c2o
                clear hown hBk hb'
                go_wp2_with (at_builtin; refine wpList_append_rd rfl (.tmp 61) (.tmp 66) 22 rfl wr.heap.size 43 3 40 (.agg #[.int .i64 0, .string ⟨#[]⟩, .string ⟨#[]⟩]) Try.underlying22 info_op rfl (by decide) vGA _ L.length 1 ((L.take L.length).flatMap Ope.cells) ([o].flatMap Ope.cells) rfl rfl (World.ownsRow.alloc HOGA.out _) ?rdGB (opFlat_one _) ?bbGB ?l1GB ?l2GB ?kkGB)
                case rdGB => (rw [opFlat_one_]; exact one_op _ o)
                case bbGB => (have := HBGA.out.size; simp; omega)
                case l1GB => omega
                case l2GB => (unfold maxLen; omega)
                case kkGB =>
                  intro vGB wGB hown hBk
                  have hb' := hBk wr.heap.size wr (Nat.le_refl _) (HBGA.out.alloc HBGA.out.size _)
                  have HOGB := Lib.hid hown
                  have HBGB := Lib.hid hb'
                  clear hown hBk hb'
                  go_wp2_with (at_builtin; (refine wpList_append_rd rfl (.tmp 68) (.tmp 71) 22 rfl wr.heap.size 43 3 40 (.agg #[.int .i64 0, .string ⟨#[]⟩, .string ⟨#[]⟩]) Try.underlying22 info_op rfl (by decide) vGB _ (L.length + 1) (L.length - L.length) ((L.take L.length).flatMap Ope.cells ++ [o].flatMap Ope.cells) ((L.drop L.length).flatMap Ope.cells) rfl rfl (by simpa using HOGB.out) ?rdGC (opFlat_one _) ?bbGC ?l1GC ?l2GC ?kkGC))
                  case rdGC => (simp only [Act.eval]; go_simp; exact rdNone _ _ _ (by unfold maxLen; omega) (fun h => by cases h))
                  case bbGC => exact HBGB.out.size
                  case l1GC => omega
                  case l2GC => (unfold maxLen; omega)
                  case kkGC =>
                    intro vGC wGC hown hBk
                    have hb' := hBk wr.heap.size wr (Nat.le_refl _) HBGB.out
                    have HOGC := Lib.hid hown
                    have HBGC := Lib.hid hb'
                    clear hown hBk hb'
                    go_wp2
                    refine ⟨⟨i + 1, vGC, by omega, rfl, by go_num, ?_, ?_⟩, ?_⟩
                    · have hlen : L.length + 1 + (L.length - L.length) = (normL (l.take (i + 1))).length := by rw [HT.out, HS.out]; simp only [List.length_append, List.length_take, List.length_drop, List.length_cons, List.length_nil]; omega
                      have hx := own_mono HOGC.out (Nat.le_trans HB.out.size HC.out.size)
                      unfold OwnO
                      rw [← hlen, HT.out, HS.out, opFlat_app, opFlat_app]
                      simpa using hx
                    · exact (HB.out.trans (HC.out.mono HB.out.size)).trans (HBGC.out.mono (Nat.le_trans HB.out.size HC.out.size))
                    · simp [intOf]; omega
    · obtain rfl : i = l.length := by omega
      go_wp2
      go_ret
      exact ⟨_, rfl, by rw [List.take_length] at hu; exact hu, hb⟩
end Go.Proofs.Ytpbmacbogmnokaa
