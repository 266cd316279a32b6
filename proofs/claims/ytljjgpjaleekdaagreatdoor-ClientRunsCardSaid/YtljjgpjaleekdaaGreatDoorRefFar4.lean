/-
  The document's far store: List, Drop.
-/
import Derived.Test.YtljjgpjaleekdaaGreatDoorRefFar3
namespace Go.Proofs.YtljjgpjaleekdaaGreatDoor
open Go.RowKit

theorem str_one (l : List (List UInt8 × List UInt8)) : ∀ u ∈ nmCells l, u.oneCell' = true := by
  intro u hu
  obtain ⟨c, _, rfl⟩ := List.mem_map.1 hu
  rfl

set_option maxRecDepth 100000 in
set_option maxHeartbeats 2000000 in
set_option linter.unusedSimpArgs false in
theorem rlist_at {H : Nat → Prop} {w : World} {q : Nat} {f : FR} (h : RefAt H w q f) (hol : f.objs.length < 1000000) (hcl : f.calls < 1000000000000) :
    Calls Tryz.prog 40 #[.pointer (some ⟨q, 0, none⟩)] w fun e w' => ∃ v, e = .returned (.tuple #[v, .int .i64 (f.list.2 : Int)]) ∧ RefTo H w w' q f.took ∧ w'.ownsRow w.heap.size 9 1 v f.list.1.length (f.list.1.map fun n => .string (strB n)) := by
  have HT := Lib.hid (rtake_at h hcl)
  obtain ⟨te, hte⟩ : ∃ te, te = tells f.out 0 := ⟨_, rfl⟩
  have hl1 : f.list.2 = te := by rw [hte]; rfl
  rw [hl1]
  have HTE := Lib.hid hte
  by_cases h0 : te = 0
  · have hl2 : f.list.1 = f.objs.map (·.1) := by unfold FR.list; rw [← hte, h0]; rfl
    have hto := told_any
    rw [hl2, List.map_map, List.length_map]
    have HTO := Lib.hid (fun (w : World) => (show Calls Tryz.prog 51 #[.int .i64 f.out, .int .i64 0] w fun x w' => x = .returned (.int .i64 0) ∧ w = w' by have := told_any w f.out 0; rw [← hte, h0] at this; exact this))
    subst h0
    clear hl1 hl2 hte hto h
    go_enter Tryz.func40, Tryz.ntmps40
    go_wp2_with (first | (go_at_call 48; refine HT.out.mono ?_; rintro e w1 ⟨rfl, h1, ht1, hs1⟩; have H1 := Lib.hid h1; have HT1 := Lib.hid ht1; have HS1 := Lib.hid hs1; clear h1 ht1 hs1) | (go_at_call 51; refine (HTO.out _).mono ?_; rintro e w2 ⟨rfl, rfl⟩))
    obtain ⟨⟨lv, nv, k1, k2, k3, k4, k5⟩, hq, lt⟩ := H1.out
    obtain ⟨la, lc, hlv, hlc1, hlc2, _, hcell⟩ := k2
    subst hlv
    have HP := Lib.hid k1
    have HCL := Lib.hid hcell
    have HKL := Lib.hid k4
    have HLT := Lib.hid lt
    clear k1 k3 k4 k5 hcell
    go_loopw [5, 6] (fun v i wr => ∃ (k : Nat) (u : Value), k ≤ f.objs.length ∧ i = .int .i64 k ∧ u = v ∧ wr.ownsRow w1.heap.size 9 1 u k (nmCells (f.objs.take k)) ∧ Below w1.heap.size w1 wr) (fun _ i _ => f.objs.length - (intOf i).toNat)
    case atStart => exact ⟨0, _, Nat.zero_le _, rfl, rfl, World.ownsRow_nil _ _ _ _, Below.refl _ _⟩
    case round =>
      obtain ⟨k, u, hk, rfl, rfl, hu, hB⟩ := hrel
      have HU := Lib.hid hu
      have HB := Lib.hid hB
      clear hu hB
      have c0 : wr.cell? ⟨q, 0, none⟩ = some (.slice la f.took.objs.length lc) := blk_cell ((HB.out.block q (blk_lt HP.out)).trans HP.out)
      have hol' : f.took.objs.length = f.objs.length := rfl
      rw [hol'] at c0 hlc1
      by_cases hlt : k < f.objs.length
      · obtain ⟨x, hx⟩ : ∃ x, f.objs[k]? = some x := ⟨_, List.getElem?_eq_getElem hlt⟩
        rcases HCL.out with ⟨hz, _⟩ | ⟨b, off, rfl, hbl, hcell⟩
        · rw [hol'] at hz; omega
        · have e1 : wr.cell? ⟨b, off + k * 3, none⟩ = some (.string (strB x.1)) := (HB.out.cell (p := ⟨b, off + k * 3, none⟩) hbl).trans (hcell (k * 3) _ (fileCells_at hx).1)
          have hstep : f.objs.take (k + 1) = f.objs.take k ++ [x] := by
            obtain ⟨q1, q2⟩ := List.getElem?_eq_some_iff.1 hx
            rw [List.take_succ_eq_append_getElem q1, q2]
          have HST := Lib.hid hstep
          have hszw := HB.out.size
          clear hcell hx hstep
          go_wp2_with (at_builtin; refine wpList_append_rd rfl (.tmp 22) (.tmp 31) 53 rfl w1.heap.size 9 1 16 (.string ⟨#[]⟩) Tryz.underlying53 info_str rfl (by decide) u _ k 1 (nmCells (f.objs.take k)) (nmCells [x]) rfl rfl (World.ownsRow.alloc HU.out _) ?rd (str_one _) ?bb ?l1 ?l2 ?kk)
          case rd => exact ⟨_, 1, rfl, Nat.le_refl _, by unfold maxLen; omega, rfl, .inr ⟨wr.heap.size, 0, rfl, by simp, fun j u hj => by rw [blk_cell (heap_alloc_new wr _)]; simpa [nmCells] using hj⟩⟩
          case bb => simp; omega
          case l1 => omega
          case l2 => unfold maxLen; omega
          case kk =>
            intro v' w' hown hBk
            have hb' := hBk w1.heap.size w1 (Nat.le_refl _) (HB.out.alloc (by omega) _)
            have HO' := Lib.hid hown
            have HB' := Lib.hid hb'
            clear hown hBk hb'
            go_wp2
            go_roundw
            case rel =>
              refine ⟨k + 1, v', by omega, by go_num, rfl, ?_, HB'.out⟩
              have e2 : nmCells (f.objs.take (k + 1)) = nmCells (f.objs.take k) ++ nmCells [x] := by rw [HST.out]; simp [nmCells]
              rw [e2]
              exact HO'.out
            case measure => simp [intOf]; omega
      · go_wp2
        go_ret2
        have hkn : k = f.objs.length := by omega
        refine ⟨u, rfl, RefTo.then ⟨H, H1.out, HT1.out, Grows.refl _ _ _⟩ HB.out, ?_⟩
        have hu := HU.out
        rw [hkn, List.take_length] at hu
        exact own_base hu fun j e => by have := (World.ownsRow.lt hu j e).1; have := HS1.out; omega
  · have hl2 : f.list.1 = [] := by unfold FR.list; rw [← hte]; simp [h0]
    rw [hl2]
    have hne : ¬ (te : Int) = 0 := by omega
    have HTO := Lib.hid (fun (w : World) => (show Calls Tryz.prog 51 #[.int .i64 f.out, .int .i64 0] w fun x w' => x = .returned (.int .i64 (te : Int)) ∧ w = w' by have := told_any w f.out 0; rw [← hte] at this; exact this))
    clear hl1 hl2 hte h
    go_enter Tryz.func40, Tryz.ntmps40
    go_wp2_with (first | (go_at_call 48; refine HT.out.mono ?_; rintro e w1 ⟨rfl, h1, ht1, hs1⟩) | (go_at_call 51; refine (HTO.out _).mono ?_; rintro e w2 ⟨rfl, rfl⟩))
    go_ret2
    exact ⟨_, rfl, ⟨H, h1, ht1, Grows.refl _ _ _⟩, World.ownsRow_nil _ _ _ _⟩

theorem nidx_find {β : Type} : ∀ (l : List (List UInt8 × β)) (n : List UInt8), (nidx l n).isSome = (nfind l n).isSome
  | [], _ => rfl
  | x :: r, n => by
    unfold nidx nfind
    by_cases h : (x.1 == n) = true
    · rw [if_pos h, List.find?_cons_of_pos (by simpa using h)]; rfl
    · rw [if_neg h, List.find?_cons_of_neg (by simpa using h), Option.isSome_map, nidx_find r n]
      rfl

theorem nidx_at {β : Type} : ∀ (l : List (List UInt8 × β)) (n : List UInt8) (i : Nat), nidx l n = some i → ∃ x, l[i]? = some x ∧ nfind l n = some x.2 ∧ i < l.length
  | [], _, _, h => by cases h
  | x :: r, n, i, h => by
    unfold nidx at h
    by_cases hx : (x.1 == n) = true
    · rw [if_pos hx] at h
      cases h
      refine ⟨x, rfl, ?_, by simp⟩
      unfold nfind
      rw [List.find?_cons_of_pos (by simpa using hx)]
      rfl
    · rw [if_neg hx] at h
      obtain ⟨j, hj, rfl⟩ := Option.map_eq_some_iff.1 h
      obtain ⟨y, h1, h2, h3⟩ := nidx_at r n j hj
      refine ⟨y, by simpa using h1, ?_, by simp; omega⟩
      unfold nfind
      rw [List.find?_cons_of_neg (by simpa using hx)]
      exact h2

theorem nwithout_at {β : Type} : ∀ (l : List (List UInt8 × β)) (n : List UInt8) (i : Nat), Srt l → nidx l n = some i → nwithout l n = l.take i ++ l.drop (i + 1)
  | [], _, _, _, h => by cases h
  | x :: r, n, i, hs, h => by
    obtain ⟨h1, h2⟩ := List.pairwise_cons.1 hs
    unfold nidx at h
    by_cases hx : (x.1 == n) = true
    · rw [if_pos hx] at h
      cases h
      have hx' : x.1 = n := by simpa using hx
      have hr : ∀ y ∈ r, (y.1 == n) = false := fun y hy => by
        have hb := h1 y hy
        rw [hx'] at hb
        by_cases e : y.1 = n
        · rw [e, bytesBefore_irrefl] at hb; cases hb
        · simpa using e
      unfold nwithout
      rw [List.filter_cons_of_neg (by rw [hx]; simp), List.filter_eq_self.2 fun y hy => by rw [hr y hy]; rfl]
      simp
    · rw [if_neg hx] at h
      obtain ⟨j, hj, rfl⟩ := Option.map_eq_some_iff.1 h
      have := nwithout_at r n j h2 hj
      unfold nwithout at this ⊢
      rw [List.filter_cons_of_pos (by simpa using hx), this]
      simp
end Go.Proofs.YtljjgpjaleekdaaGreatDoor
