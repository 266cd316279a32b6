import Derived.Test.YtfeogoihkpclcaaMg16

/-
  The document's disk: names without one, with one, changed.
-/
namespace Go.Proofs.Ytfeogoihkpclcaa
open Go.RowKit

theorem one_bind (w : World) (x : List UInt8 × Nat) : Rd (w.alloc (.cells #[.string (strB x.1), .int .i64 (x.2 : Int)] 87)) 2 (.slice (some ⟨w.heap.size, 0, none⟩) 1 1) 1 (bCells [x]) :=
  ⟨_, 1, rfl, Nat.le_refl _, by unfold maxLen; omega, rfl, .inr ⟨w.heap.size, 0, rfl, by simp, fun j u hj => by rw [blk_cell (heap_alloc_new w _)]; simpa [bCells] using hj⟩⟩

theorem without_step {l : DB} {n : List UInt8} {k : Nat} {x : List UInt8 × Nat} (hx : l[k]? = some x) : dwithout (l.take (k + 1)) n = if x.1 = n then dwithout (l.take k) n else dwithout (l.take k) n ++ [x] := by
  obtain ⟨h1, h2⟩ := List.getElem?_eq_some_iff.1 hx
  unfold dwithout
  rw [List.take_succ_eq_append_getElem h1, h2, List.filter_append]
  by_cases e : x.1 = n
  · rw [if_pos e]; simp [e]
  · rw [if_neg e]; simp [e]

set_option maxRecDepth 100000 in
set_option maxHeartbeats 4000000 in
set_option linter.unusedSimpArgs false in
theorem dwithout_any (w : World) (lv : Value) (l : DB) (s : ByteArray) (hl : l.length < 1000000) (h : Rd w 2 lv l.length (bCells l)) :
    Calls Try.prog 75 #[lv, .string s] w fun e w' => ∃ v, e = .returned v ∧ w'.ownsRow w.heap.size 87 2 v (dwithout l s.data.toList).length (bCells (dwithout l s.data.toList)) ∧ Below w.heap.size w w' := by
  have hr := h
  obtain ⟨a, cap, rfl, h1, h2, _, h4⟩ := h
  have HR := Lib.hid hr
  clear h4 hr
  go_enter Try.func75, Try.ntmps75
  go_wp2
  go_loopw [5, 6] (fun u i wr => ∃ (k : Nat) (u' : Value), k ≤ l.length ∧ i = .int .i64 k ∧ u' = u ∧ wr.ownsRow w.heap.size 87 2 u' (dwithout (l.take k) s.data.toList).length (bCells (dwithout (l.take k) s.data.toList)) ∧ Below w.heap.size w wr) (fun _ i _ => l.length - (intOf i).toNat)
  case atStart => exact ⟨0, _, Nat.zero_le _, rfl, rfl, World.ownsRow_nil _ _ _ _, Below.refl _ _⟩
  case round =>
    obtain ⟨k, u, hk, rfl, rfl, hu, hB⟩ := hrel
    have HU := Lib.hid hu
    have HB := Lib.hid hB
    clear hu hB
    by_cases hlt : k < l.length
    · obtain ⟨x, hx⟩ : ∃ x, l[k]? = some x := ⟨_, List.getElem?_eq_getElem hlt⟩
      obtain ⟨b, off, rfl, d1, d2, hb⟩ := rd_bind HR.out hx
      have e1 := (HB.out.cell (p := ⟨b, off + k * 2, none⟩) hb).trans d1
      have e2 := (HB.out.cell (p := ⟨b, off + k * 2 + 1, none⟩) hb).trans d2
      have hst := without_step hx (n := s.data.toList)
      clear d1 d2 hx
      by_cases he : x.1 = s.data.toList
      · rw [if_pos he] at hst
        have hsx : strB x.1 = s := by rw [he]
        rw [hsx] at e1
        have HST := Lib.hid hst
        clear he hsx hst
        go_wp2
        all_goals
          go_roundw
          case rel => exact ⟨k + 1, u, by omega, by go_num, rfl, by rw [HST.out]; exact HU.out, HB.out⟩
          case measure => simp [intOf]; omega
      · rw [if_neg he] at hst
        obtain ⟨t, ht⟩ : ∃ t, t = strB x.1 := ⟨_, rfl⟩
        rw [← ht] at e1
        obtain ⟨htb, hts⟩ := str_ne (t := t) (s := s) (by rw [ht]; exact he)
        have HST := Lib.hid hst
        have HT := Lib.hid ht
        have hml : (dwithout (l.take k) s.data.toList).length ≤ k := Nat.le_trans (List.length_filter_le _ _) (by rw [List.length_take]; omega)
        clear he hst ht
        go_wp2_with (at_builtin; refine wpList_append_rd rfl (.tmp 20) (.tmp 25) 53 rfl w.heap.size 87 2 24 (.agg #[.string ⟨#[]⟩, .int .i64 0]) Try.underlying53 info_bind rfl (by decide) u _ (dwithout (l.take k) s.data.toList).length 1 (bCells (dwithout (l.take k) s.data.toList)) (bCells [x]) rfl rfl (World.ownsRow.alloc HU.out _) ?rdA (b_one _) ?bbA ?l1A ?l2A ?kkA)
        case rdA => (rw [HT.out]; exact one_bind wr x)
        case bbA => (have := HB.out.size; simp; omega)
        case l1A => ((try simp only [List.length_append, List.length_cons, List.length_nil]); omega)
        case l2A => ((try simp only [List.length_append, List.length_cons, List.length_nil]); unfold maxLen; omega)
        case kkA =>
          intro vA wA hown hBk
          have hb' := hBk w.heap.size w (Nat.le_refl _) (HB.out.alloc HB.out.size _)
          have HOA := Lib.hid hown
          have HBA := Lib.hid hb'
          clear hown hBk hb'
          go_wp2
          go_roundw
          case rel => exact ⟨k + 1, vA, by omega, by go_num, rfl, by rw [HST.out, b_app, List.length_append]; exact HOA.out, HBA.out⟩
          case measure => simp [intOf]; omega
    · have hkl : k = l.length := by omega
      subst hkl
      have HUU := Lib.hid (show wr.ownsRow w.heap.size 87 2 u (dwithout l s.data.toList).length (bCells (dwithout l s.data.toList)) by have := HU.out; rw [List.take_length] at this; exact this)
      go_wp2
      go_ret
      exact ⟨_, rfl, HUU.out, HB.out⟩

theorem drop_without {l : DB} {n : List UInt8} {k : Nat} {x : List UInt8 × Nat} (hx : l[k]? = some x) : dwithout (l.drop k) n = if x.1 = n then dwithout (l.drop (k + 1)) n else x :: dwithout (l.drop (k + 1)) n := by
  obtain ⟨h1, h2⟩ := List.getElem?_eq_some_iff.1 hx
  rw [List.drop_eq_getElem_cons h1, h2]
  unfold dwithout
  by_cases e : x.1 = n
  · rw [if_pos e, List.filter_cons_of_neg (by simp [e])]
  · rw [if_neg e, List.filter_cons_of_pos (by simp [e])]

theorem dput_cons (x : List UInt8 × Nat) (r : DB) (n : List UInt8) (id : Nat) : dput (x :: r) n id = if bytesBefore n x.1 then (n, id) :: x :: r else x :: dput r n id := by
  show (if above x n then (n, id) :: x :: r else x :: dput r n id) = _
  rw [before_above]

set_option maxRecDepth 100000 in
set_option maxHeartbeats 4000000 in
set_option linter.unusedSimpArgs false in
theorem dwith_any (w : World) (lv : Value) (l : DB) (s : ByteArray) (id : Nat) (hl : l.length < 1000000) (h : Rd w 2 lv l.length (bCells l)) :
    Calls Try.prog 74 #[lv, .string s, .int .i64 (id : Int)] w fun e w' => ∃ v, e = .returned v ∧ w'.ownsRow w.heap.size 87 2 v (dwith l s.data.toList id).length (bCells (dwith l s.data.toList id)) ∧ Below w.heap.size w w' := by
  have hr := h
  obtain ⟨a, cap, rfl, h1, h2, _, h4⟩ := h
  have HR := Lib.hid hr
  clear h4 hr
  go_enter Try.func74, Try.ntmps74
  go_wp2
  go_loopw [7, 8, 9] (fun u ib i wr => ∃ (k : Nat) (u' : Value) (ib' : Bool) (L : DB), k ≤ l.length ∧ i = .int .i64 k ∧ u' = u ∧ ib = .bool ib' ∧ L.length ≤ k + ib'.toNat ∧ wr.ownsRow w.heap.size 87 2 u' L.length (bCells L) ∧ Below w.heap.size w wr ∧ dwith l s.data.toList id = L ++ (if ib' then dwithout (l.drop k) s.data.toList else dput (dwithout (l.drop k) s.data.toList) s.data.toList id)) (fun _ _ i _ => l.length - (intOf i).toNat)
  case atStart => exact ⟨0, _, false, [], Nat.zero_le _, rfl, rfl, rfl, Nat.zero_le _, World.ownsRow_nil _ _ _ _, Below.refl _ _, by simp [dwith]⟩
  case round =>
    obtain ⟨k, u, ib, L, hk, rfl, rfl, rfl, hLl, hu, hB, hN⟩ := hrel
    have HU := Lib.hid hu
    have HB := Lib.hid hB
    have HN := Lib.hid hN
    clear hu hB hN
    by_cases hlt : k < l.length
    · obtain ⟨x, hx⟩ : ∃ x, l[k]? = some x := ⟨_, List.getElem?_eq_getElem hlt⟩
      obtain ⟨b, off, rfl, d1, d2, hb⟩ := rd_bind HR.out hx
      have e1 := (HB.out.cell (p := ⟨b, off + k * 2, none⟩) hb).trans d1
      have e2 := (HB.out.cell (p := ⟨b, off + k * 2 + 1, none⟩) hb).trans d2
      have hdr := drop_without hx (n := s.data.toList)
      have D1 := Lib.hid d1
      have D2 := Lib.hid d2
      have HBL := Lib.hid hb
      clear d1 d2 hx hb
      by_cases he : x.1 = s.data.toList
      · rw [if_pos he] at hdr
        have HNN := Lib.hid (show dwith l s.data.toList id = L ++ (if ib then dwithout (l.drop (k + 1)) s.data.toList else dput (dwithout (l.drop (k + 1)) s.data.toList) s.data.toList id) by rw [HN.out, hdr])
        have hsx : strB x.1 = s := by rw [he]
        rw [hsx] at e1
        clear he hsx hdr
        go_wp2
        all_goals
          go_roundw
          case rel => exact ⟨k + 1, u, ib, L, by omega, by go_num, rfl, rfl, by omega, HU.out, HB.out, HNN.out⟩
          case measure => simp [intOf]; omega
      · rw [if_neg he] at hdr
        obtain ⟨t, ht⟩ : ∃ t, t = strB x.1 := ⟨_, rfl⟩
        rw [← ht] at e1
        obtain ⟨htb, hts⟩ := str_ne (t := t) (s := s) (by rw [ht]; exact he)
        have HTX := Lib.hid ht
        have hlb2 : Op.bytesLess t.toList s.toList = !bytesBefore s.data.toList x.1 := by
          rw [ht, Lib.toList_data, Lib.toList_data]
          exact less_before _ _ he
        clear he ht
        cases ib with
        | true =>
          replace hLl : L.length ≤ k + 1 := hLl
          have HNN := Lib.hid (show dwith l s.data.toList id = (L ++ [x]) ++ dwithout (l.drop (k + 1)) s.data.toList by rw [HN.out, if_pos rfl, hdr]; simp)
          clear hdr hlb2
          go_wp2_with (at_builtin; refine wpList_append_rd rfl (.tmp 40) (.tmp 45) 53 rfl w.heap.size 87 2 24 (.agg #[.string ⟨#[]⟩, .int .i64 0]) Try.underlying53 info_bind rfl (by decide) u _ L.length 1 (bCells L) (bCells [x]) rfl rfl (World.ownsRow.alloc HU.out _) ?rdA (b_one _) ?bbA ?l1A ?l2A ?kkA)
          case rdA => (rw [HTX.out]; exact one_bind wr x)
          case bbA => (have := HB.out.size; simp; omega)
          case l1A => ((try simp only [List.length_append, List.length_cons, List.length_nil]); omega)
          case l2A => ((try simp only [List.length_append, List.length_cons, List.length_nil]); unfold maxLen; omega)
          case kkA =>
            intro vA wA hown hBk
            have hb' := hBk w.heap.size w (Nat.le_refl _) (HB.out.alloc HB.out.size _)
            have HOA := Lib.hid hown
            have HBA := Lib.hid hb'
            clear hown hBk hb'
            go_wp2
            go_roundw
            case rel => exact ⟨k + 1, vA, true, L ++ [x], by omega, by go_num, rfl, rfl, (by simp only [List.length_append, List.length_cons, List.length_nil, Bool.toNat_true, Bool.toNat_false]; omega), (by rw [b_app]; simp only [List.length_append, List.length_cons, List.length_nil]; exact HOA.out), HBA.out, HNN.out⟩
            case measure => simp [intOf]; omega
        | false =>
          replace hLl : L.length ≤ k := hLl
          cases hbf : bytesBefore s.data.toList x.1 with
          | false =>
            rw [hbf] at hlb2
            replace hlb2 : Op.bytesLess t.toList s.toList = true := hlb2
            have hgt : (binOp .gtr 9 (.string t) (.string s)).run Try.prog wr = .ok (.bool false) wr := by
              rw [str_gtr, hlb2, htb]; rfl
            have HNN := Lib.hid (show dwith l s.data.toList id = (L ++ [x]) ++ dput (dwithout (l.drop (k + 1)) s.data.toList) s.data.toList id by rw [HN.out, if_neg (by simp), hdr, dput_cons, hbf, if_neg (by simp)]; simp)
            clear hdr hbf hlb2
            go_wp2_with (at_builtin; refine wpList_append_rd rfl (.tmp 40) (.tmp 45) 53 rfl w.heap.size 87 2 24 (.agg #[.string ⟨#[]⟩, .int .i64 0]) Try.underlying53 info_bind rfl (by decide) u _ L.length 1 (bCells L) (bCells [x]) rfl rfl (World.ownsRow.alloc HU.out _) ?rdB (b_one _) ?bbB ?l1B ?l2B ?kkB)
            case rdB => (rw [HTX.out]; exact one_bind wr x)
            case bbB => (have := HB.out.size; simp; omega)
            case l1B => ((try simp only [List.length_append, List.length_cons, List.length_nil]); omega)
            case l2B => ((try simp only [List.length_append, List.length_cons, List.length_nil]); unfold maxLen; omega)
            case kkB =>
              intro vB wB hown hBk
              have hb' := hBk w.heap.size w (Nat.le_refl _) (HB.out.alloc HB.out.size _)
              have HOB := Lib.hid hown
              have HBB := Lib.hid hb'
              clear hown hBk hb'
              go_wp2
              go_roundw
              case rel => exact ⟨k + 1, vB, false, L ++ [x], by omega, by go_num, rfl, rfl, (by simp only [List.length_append, List.length_cons, List.length_nil, Bool.toNat_true, Bool.toNat_false]; omega), (by rw [b_app]; simp only [List.length_append, List.length_cons, List.length_nil]; exact HOB.out), HBB.out, HNN.out⟩
              case measure => simp [intOf]; omega
          | true =>
            rw [hbf] at hlb2
            replace hlb2 : Op.bytesLess t.toList s.toList = false := hlb2
            have hgt : (binOp .gtr 9 (.string t) (.string s)).run Try.prog wr = .ok (.bool true) wr := by
              rw [str_gtr, hlb2, htb]; rfl
            have HNN := Lib.hid (show dwith l s.data.toList id = (L ++ [(s.data.toList, id)] ++ [x]) ++ dwithout (l.drop (k + 1)) s.data.toList by rw [HN.out, if_neg (by simp), hdr, dput_cons, hbf, if_pos rfl]; simp)
            clear hdr hbf hlb2
            go_wp2_with (at_builtin; refine wpList_append_rd rfl (.tmp 34) (.tmp 38) 53 rfl w.heap.size 87 2 24 (.agg #[.string ⟨#[]⟩, .int .i64 0]) Try.underlying53 info_bind rfl (by decide) u _ L.length 1 (bCells L) (bCells [(s.data.toList, id)]) rfl rfl (World.ownsRow.alloc HU.out _) ?rdC (b_one _) ?bbC ?l1C ?l2C ?kkC)
            case rdC => exact one_bind wr (s.data.toList, id)
            case bbC => (have := HB.out.size; simp; omega)
            case l1C => ((try simp only [List.length_append, List.length_cons, List.length_nil]); omega)
            case l2C => ((try simp only [List.length_append, List.length_cons, List.length_nil]); unfold maxLen; omega)
            case kkC =>
              intro vC wC hown hBk
              have hb' := hBk w.heap.size w (Nat.le_refl _) (HB.out.alloc HB.out.size _)
              have HOC := Lib.hid hown
              have HBC := Lib.hid hb'
              clear hown hBk hb'
              have f1 := (HBC.out.cell (p := ⟨b, off + k * 2, none⟩) HBL.out).trans D1.out
              have f2 := (HBC.out.cell (p := ⟨b, off + k * 2 + 1, none⟩) HBL.out).trans D2.out
              rw [← HTX.out] at f1
              have HOC2 := Lib.hid (show wC.ownsRow w.heap.size 87 2 vC (L ++ [(s.data.toList, id)]).length (bCells (L ++ [(s.data.toList, id)])) by rw [b_app, List.length_append]; exact HOC.out)
              go_wp2_with (at_builtin; refine wpList_append_rd rfl (.tmp 40) (.tmp 45) 53 rfl w.heap.size 87 2 24 (.agg #[.string ⟨#[]⟩, .int .i64 0]) Try.underlying53 info_bind rfl (by decide) vC _ (L ++ [(s.data.toList, id)]).length 1 (bCells (L ++ [(s.data.toList, id)])) (bCells [x]) rfl rfl (World.ownsRow.alloc HOC2.out _) ?rdD (b_one _) ?bbD ?l1D ?l2D ?kkD)
              case rdD => (rw [HTX.out]; exact one_bind wC x)
              case bbD => (have := HBC.out.size; simp; omega)
              case l1D => ((try simp only [List.length_append, List.length_cons, List.length_nil]); omega)
              case l2D => ((try simp only [List.length_append, List.length_cons, List.length_nil]); unfold maxLen; omega)
              case kkD =>
                intro vD wD hown hBk
                have hb' := hBk w.heap.size w (Nat.le_refl _) (HBC.out.alloc HBC.out.size _)
                have HOD := Lib.hid hown
                have HBD := Lib.hid hb'
                clear hown hBk hb'
                go_wp2
                go_roundw
                case rel => exact ⟨k + 1, vD, true, L ++ [(s.data.toList, id)] ++ [x], by omega, by go_num, rfl, rfl, (by simp only [List.length_append, List.length_cons, List.length_nil, Bool.toNat_true, Bool.toNat_false]; omega), (by rw [b_app]; simp only [List.length_append, List.length_cons, List.length_nil]; exact HOD.out), HBD.out, HNN.out⟩
                case measure => simp [intOf]; omega
    · have hkl : k = l.length := by omega
      subst hkl
      cases ib with
      | true =>
        have HNN := Lib.hid (show dwith l s.data.toList id = L by rw [HN.out, if_pos rfl]; simp [dwithout])
        go_wp2
        go_ret
        exact ⟨_, rfl, by rw [HNN.out]; exact HU.out, HB.out⟩
      | false =>
        replace hLl : L.length ≤ l.length := hLl
        have HNN := Lib.hid (show dwith l s.data.toList id = L ++ [(s.data.toList, id)] by rw [HN.out, if_neg (by simp)]; simp [dwithout, dput])
        go_wp2_with (at_builtin; refine wpList_append_rd rfl (.tmp 49) (.tmp 53) 53 rfl w.heap.size 87 2 24 (.agg #[.string ⟨#[]⟩, .int .i64 0]) Try.underlying53 info_bind rfl (by decide) u _ L.length 1 (bCells L) (bCells [(s.data.toList, id)]) rfl rfl (World.ownsRow.alloc HU.out _) ?rdF (b_one _) ?bbF ?l1F ?l2F ?kkF)
        case rdF => exact one_bind wr (s.data.toList, id)
        case bbF => (have := HB.out.size; simp; omega)
        case l1F => ((try simp only [List.length_append, List.length_cons, List.length_nil]); omega)
        case l2F => ((try simp only [List.length_append, List.length_cons, List.length_nil]); unfold maxLen; omega)
        case kkF =>
          intro vF wF hown hBk
          have hb' := hBk w.heap.size w (Nat.le_refl _) (HB.out.alloc HB.out.size _)
          have HOF := Lib.hid hown
          have HBF := Lib.hid hb'
          clear hown hBk hb'
          go_wp2
          go_ret
          exact ⟨_, rfl, by rw [HNN.out, b_app, List.length_append]; exact HOF.out, HBF.out⟩
end Go.Proofs.Ytfeogoihkpclcaa

/-
  The document's disk: a change of names, done.
-/
namespace Go.Proofs.Ytfeogoihkpclcaa
open Go.RowKit

/-- Names that can be read, new or those of 'lv'. -/
def BOut (w w' : World) (lv v : Value) (l : DB) : Prop := Rd w' 2 v l.length (bCells l) ∧ Below w.heap.size w w' ∧ ∀ k, v.ownBlock = some k → (w.heap.size ≤ k ∧ k < w'.heap.size) ∨ lv.ownBlock = some k

theorem bout_new {w w1 w' : World} {lv v : Value} {l : DB} (hb : Below w.heap.size w w1) (ho : w'.ownsRow w1.heap.size 87 2 v l.length (bCells l)) (hb2 : Below w1.heap.size w1 w') : BOut w w' lv v l :=
  ⟨rd_of_own ho, hb.trans (hb2.mono hb.size), fun k e => .inl ⟨Nat.le_trans hb.size (World.ownsRow.lt ho k e).1, (World.ownsRow.lt ho k e).2⟩⟩

theorem dwithout_len (l : DB) (n : List UInt8) : (dwithout l n).length ≤ l.length := List.length_filter_le _ _
theorem dwith_len (l : DB) (n : List UInt8) (id : Nat) : (dwith l n id).length ≤ l.length + 1 := by
  rw [(with_perm l n id).length_eq]
  have := dwithout_len l n
  simp only [List.length_cons]
  omega

set_option maxRecDepth 100000 in
set_option maxHeartbeats 4000000 in
set_option linter.unusedSimpArgs false in
theorem dchanged_any (w : World) (lv : Value) (l : DB) (c : DC) (hl : l.length < 1000000) (hid : c.id < 1000000000) (hids : ∀ x ∈ l, x.2 < 1000000000) (h : Rd w 2 lv l.length (bCells l)) :
    Calls Try.prog 70 #[lv, .agg #[.string (strB c.src), .string (strB c.dst), .int .i64 (c.id : Int)]] w fun e w' => ∃ v, e = .returned v ∧ BOut w w' lv v (dchanged l c) := by
  obtain ⟨src, dst, id⟩ := c
  dsimp only at hid ⊢
  have hr := h
  obtain ⟨a, cap, rfl, h1, h2, _, h4⟩ := h
  obtain ⟨wb, hwb⟩ : ∃ wb, wb = w.alloc (.cells #[.string (strB src), .string (strB dst), .int .i64 (id : Int)] 101) := ⟨_, rfl⟩
  have HBB := Lib.hid (show Below w.heap.size w wb by rw [hwb]; exact (Below.refl _ _).alloc (Nat.le_refl _) _)
  have HBX := Lib.hid (show wb.heap[w.heap.size]? = some (.cells #[.string (strB src), .string (strB dst), .int .i64 (id : Int)] 101 (0, 0)) by rw [hwb]; exact heap_alloc_new w _)
  have HRB := Lib.hid (hr.below HBB.out (Nat.le_refl _))
  have HR := Lib.hid hr
  have c0 : wb.cell? ⟨w.heap.size, 0, none⟩ = some (.string (strB src)) := blk_cell HBX.out
  have c1 : wb.cell? ⟨w.heap.size, 1, none⟩ = some (.string (strB dst)) := blk_cell HBX.out
  have c2 : wb.cell? ⟨w.heap.size, 2, none⟩ = some (.int .i64 (id : Int)) := blk_cell HBX.out
  have HWB := Lib.hid hwb
  obtain ⟨t, ht⟩ : ∃ t, t = strB src := ⟨_, rfl⟩
  obtain ⟨u, hu⟩ : ∃ u, u = strB dst := ⟨_, rfl⟩
  rw [← ht] at c0 HWB ⊢
  rw [← hu] at c1 HWB ⊢
  have htd : t.data.toList = src := by rw [ht]
  have hud : u.data.toList = dst := by rw [hu]
  have HTD := Lib.hid htd
  have HUD := Lib.hid hud
  clear h4 hr hwb ht hu htd hud
  unfold dchanged
  dsimp only
  by_cases hs : src = []
  · rw [if_pos hs]
    have hte : t = ⟨#[]⟩ := ByteArray.ext (Array.toList_inj.1 (by rw [HTD.out, hs]))
    subst hte
    clear hs
    go_enter Try.func70, Try.ntmps70
    go_upto_region 1 with (fail)
    rw [← HWB.out]
    go_wp2_with (go_at_call 74; (with_reducible refine (dwith_any _ _ l u id hl HRB.out).mono ?_); rintro e w2 ⟨v, rfl, k1, k2⟩; rw [HUD.out] at k1; have H1 := Lib.hid k1; have H2 := Lib.hid k2; clear k1 k2)
    go_ret
    exact ⟨v, rfl, bout_new HBB.out H1.out H2.out⟩
  · rw [if_neg hs]
    have hse : t.toList.isEmpty = false := by rw [Lib.toList_data, HTD.out]; cases src with
      | nil => exact absurd rfl hs
      | cons _ _ => rfl
    clear hs
    have hf := dfind_any wb (.slice a l.length cap) l t hl HRB.out
    rw [HTD.out] at hf
    cases hd : dfind l src with
    | none =>
      dsimp only
      rw [show dfindI l src = -1 by unfold dfindI; rw [hd]] at hf
      have HF := Lib.hid hf
      clear hf hd
      go_enter Try.func70, Try.ntmps70
      go_upto_region 1 with (fail)
      rw [← HWB.out]
      go_wp2_with (go_at_call 62; (with_reducible refine HF.out.mono ?_); rintro e w1 ⟨rfl, rfl⟩)
      go_ret
      exact ⟨_, rfl, HRB.out, HBB.out, fun k e => .inr e⟩
    | some id' =>
      dsimp only
      rw [show dfindI l src = (id' : Int) by unfold dfindI; rw [hd]] at hf
      have HF := Lib.hid hf
      have hid' := hids _ (dfind_in hd)
      have hn0 : ¬ (id' : Int) < 0 := by omega
      clear hf hd
      by_cases he : src = dst
      · rw [if_pos he]
        have hut : u = t := ByteArray.ext (Array.toList_inj.1 (by rw [HUD.out, HTD.out, he]))
        subst hut
        clear he
        go_enter Try.func70, Try.ntmps70
        go_upto_region 1 with (fail)
        rw [← HWB.out]
        go_wp2_with (go_at_call 62; (with_reducible refine HF.out.mono ?_); rintro e w1 ⟨rfl, rfl⟩)
        go_ret
        exact ⟨_, rfl, HRB.out, HBB.out, fun k e => .inr e⟩
      · rw [if_neg he]
        obtain ⟨htu, _⟩ := str_ne (t := t) (s := u) (by rw [HTD.out, HUD.out]; exact he)
        have HWO := Lib.hid (dwithout_any wb (.slice a l.length cap) l t hl HRB.out)
        clear he
        by_cases hd0 : dst = []
        · rw [if_pos hd0]
          have hue : u = ⟨#[]⟩ := ByteArray.ext (Array.toList_inj.1 (by rw [HUD.out, hd0]))
          subst hue
          clear hd0
          go_enter Try.func70, Try.ntmps70
          go_upto_region 1 with (fail)
          rw [← HWB.out]
          go_wp2_with (first | (go_at_call 62; (with_reducible refine HF.out.mono ?_); rintro e w1 ⟨rfl, rfl⟩) | (go_at_call 75; (with_reducible refine HWO.out.mono ?_); rintro e w2 ⟨v2, rfl, k1, k2⟩; have c1' : w2.cell? ⟨w.heap.size, 1, none⟩ = some (.string ⟨#[]⟩) := (k2.cell (p := ⟨w.heap.size, 1, none⟩) (blk_lt HBX.out)).trans c1; rw [HTD.out] at k1; have H1 := Lib.hid k1; have H2 := Lib.hid k2; clear k1 k2))
          go_ret
          exact ⟨v2, rfl, bout_new HBB.out H1.out H2.out⟩
        · rw [if_neg hd0]
          have hue : u.toList.isEmpty = false := by rw [Lib.toList_data, HUD.out]; cases dst with
            | nil => exact absurd rfl hd0
            | cons _ _ => rfl
          clear hd0
          go_enter Try.func70, Try.ntmps70
          go_upto_region 1 with (fail)
          rw [← HWB.out]
          go_wp2_with (first | (go_at_call 62; (with_reducible refine HF.out.mono ?_); rintro e w1 ⟨rfl, rfl⟩) | (go_at_call 75; (with_reducible refine HWO.out.mono ?_); rintro e w2 ⟨v2, rfl, k1, k2⟩; have c1' : w2.cell? ⟨w.heap.size, 1, none⟩ = some (.string u) := (k2.cell (p := ⟨w.heap.size, 1, none⟩) (blk_lt HBX.out)).trans c1; rw [HTD.out] at k1; have H1 := Lib.hid k1; have H2 := Lib.hid k2; clear k1 k2) | (go_at_call 74; (with_reducible refine (dwith_any _ _ (dwithout l src) u id' (by have := dwithout_len l src; omega) (rd_of_own H1.out)).mono ?_); rintro e w3 ⟨v3, rfl, k1, k2⟩; rw [HUD.out] at k1; have H3 := Lib.hid k1; have H4 := Lib.hid k2; clear k1 k2))
          go_ret
          exact ⟨v3, rfl, rd_of_own H3.out, HBB.out.trans ((H2.out.trans (H4.out.mono H2.out.size)).mono HBB.out.size), fun k e => .inl (by have := World.ownsRow.lt H3.out k e; have := H2.out.size; have := HBB.out.size; omega)⟩
end Go.Proofs.Ytfeogoihkpclcaa

/-
  The document's disk: a file's loose writes; how many bytes; a write done.
-/
namespace Go.Proofs.Ytfeogoihkpclcaa
open Go.RowKit

/-- A loose write as it lies in memory: place, bytes, and the slice that tells them. -/
abbrev PW := Nat × List UInt8 × Value
def pwCells (l : List PW) : List Value := l.flatMap fun x => [.int .i64 (x.1 : Int), x.2.2]
def pwL (l : List PW) : List (Nat × List UInt8) := l.map fun x => (x.1, x.2.1)
structure PutsAt (w : World) (pv : Value) (ps : List PW) : Prop where
  row : Rd w 2 pv ps.length (pwCells ps)
  each : ∀ x ∈ ps, RdB w x.2.2 x.2.1

theorem rd_pw {w : World} {la : Option Addr} {lc : Nat} {l : List PW} (h : Rd w 2 (.slice la l.length lc) l.length (pwCells l)) {i : Nat} {x : PW} (hx : l[i]? = some x) : ∃ b o, la = some ⟨b, o, none⟩ ∧ w.cell? ⟨b, o + i * 2, none⟩ = some (.int .i64 (x.1 : Int)) ∧ w.cell? ⟨b, o + i * 2 + 1, none⟩ = some x.2.2 ∧ b < w.heap.size := by
  obtain ⟨a, cap, hv, _, _, _, h3⟩ := h
  cases hv
  have hil := (List.getElem?_eq_some_iff.1 hx).1
  have hat := fun j hj => flat_at (fun x : PW => [Value.int .i64 (x.1 : Int), x.2.2]) 2 (fun _ => rfl) l i j hj
  rw [hx] at hat
  rcases h3 with ⟨h0, _⟩ | ⟨b, off, rfl, hb, hc⟩
  · omega
  · exact ⟨b, off, rfl, by simpa using hc (i * 2 + 0) _ (hat 0 (by decide)), by rw [Nat.add_assoc]; exact hc (i * 2 + 1) _ (hat 1 (by decide)), hb⟩

theorem many_step {ps : List PW} {k : Nat} {x : PW} (hx : ps[k]? = some x) : manyL (pwL (ps.take (k + 1))) = manyL (pwL (ps.take k)) + x.2.1.length := by
  obtain ⟨h1, h2⟩ := List.getElem?_eq_some_iff.1 hx
  rw [List.take_succ_eq_append_getElem h1, h2]
  simp [manyL, pwL]

set_option maxRecDepth 100000 in
set_option maxHeartbeats 4000000 in
set_option linter.unusedSimpArgs false in
theorem dmany_any (w : World) (fp : Nat) (sv pv : Value) (ps : List PW) (hl : ps.length < 1000000) (hm : ∀ j, manyL (pwL (ps.take j)) < 1000000000) (hc : w.heap[fp]? = some (.cells #[sv, pv] 98 (0, 0))) (h : PutsAt w pv ps) :
    Calls Try.prog 45 #[.pointer (some ⟨fp, 0, none⟩)] w fun e w' => e = .returned (.int .i64 (manyL (pwL ps) : Int)) ∧ w = w' := by
  obtain ⟨hr, he⟩ := h
  have HR := Lib.hid hr
  have HE := Lib.hid he
  obtain ⟨pa, pc, rfl, p1, p2, _, _⟩ := hr
  have c1 : w.cell? ⟨fp, 1, none⟩ = some (.slice pa ps.length pc) := blk_cell hc
  have HM := Lib.hid hm
  clear he hc hm
  go_enter Try.func45, Try.ntmps45
  go_wp2
  go_loop [3, 4] (fun n i => ∃ k : Nat, k ≤ ps.length ∧ i = .int .i64 k ∧ n = .int .i64 (manyL (pwL (ps.take k)) : Int)) (fun _ i => ps.length - (intOf i).toNat)
  case atStart => exact ⟨0, Nat.zero_le _, rfl, rfl⟩
  case round =>
    obtain ⟨k, hk, rfl, rfl⟩ := hrel
    have hmk := HM.out k
    have hmk1 := HM.out (k + 1)
    by_cases hlt : k < ps.length
    · obtain ⟨x, hx⟩ : ∃ x, ps[k]? = some x := ⟨_, List.getElem?_eq_getElem hlt⟩
      obtain ⟨b, off, rfl, d1, d2, _⟩ := rd_pw HR.out hx
      obtain ⟨xa, xc, hxv, _, _⟩ := RdB.form (HE.out x (List.mem_of_getElem? hx))
      rw [hxv] at d2
      have HS := Lib.hid (many_step hx)
      rw [many_step hx] at hmk1
      clear hx hxv
      obtain ⟨M, hM⟩ : ∃ M, manyL (pwL (ps.take k)) = M := ⟨_, rfl⟩
      rw [hM] at HS hmk hmk1 ⊢
      clear hM
      go_wp2
      go_round
      case rel => exact ⟨k + 1, by omega, by go_num, by rw [HS.out]; go_num⟩
      case measure => simp [intOf]; omega
    · have hkl : k = ps.length := by omega
      subst hkl
      rw [List.take_length] at hmk ⊢
      go_wp2
      go_ret
      exact ⟨rfl, rfl⟩

theorem wr_in (b p : List UInt8) (a i : Nat) (c : UInt8) (ha : a ≤ b.length) (hi : p[i]? = some c) (hlt : a + i < b.length) : (wr b a (p.take i)).set (a + i) c = wr b a (p.take (i + 1)) := by
  obtain ⟨h1, h2⟩ := List.getElem?_eq_some_iff.1 hi
  have hl : (p.take i).length = i := by rw [List.length_take]; omega
  have hl2 : (p.take (i + 1)).length = i + 1 := by rw [List.length_take]; omega
  have hta : (b.take a).length = a := by rw [List.length_take]; omega
  unfold wr
  rw [hl, hl2, List.take_succ_eq_append_getElem h1, h2]
  rw [List.drop_eq_getElem_cons hlt]
  rw [List.set_append_right _ _ (by simp [hl, hta])]
  have : a + i - (b.take a ++ p.take i).length = 0 := by rw [List.length_append, hl, hta]; omega
  rw [this]
  simp [Nat.add_assoc]

theorem wr_out (b p : List UInt8) (a i : Nat) (c : UInt8) (_ : a ≤ b.length) (hi : p[i]? = some c) (hge : b.length ≤ a + i) : wr b a (p.take i) ++ [c] = wr b a (p.take (i + 1)) := by
  obtain ⟨h1, h2⟩ := List.getElem?_eq_some_iff.1 hi
  have hl : (p.take i).length = i := by rw [List.length_take]; omega
  have hl2 : (p.take (i + 1)).length = i + 1 := by rw [List.length_take]; omega
  unfold wr
  rw [hl, hl2, List.drop_eq_nil_of_le hge, List.drop_eq_nil_of_le (by omega), List.take_succ_eq_append_getElem h1, h2]
  simp
end Go.Proofs.Ytfeogoihkpclcaa
