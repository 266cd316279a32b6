/-
  All objects by rising names (Objects); their names (List).
-/
import Derived.Test.YtljjgpjaleekdaaGreatDoorFarCalls
namespace Go.Proofs.YtljjgpjaleekdaaGreatDoor
open Go.RowKit

theorem info_afile : (Tryz.prog.info? 64).map (fun i => (i.zero, i.size, i.bytes)) = some (some (.agg #[.string ⟨#[]⟩, .string ⟨#[]⟩, .int .i64 0]), 3, 40) := by kernel_rfl

/-- Files as cells: name, bytes, loose bytes. -/
def fileCells (l : List (List UInt8 × List UInt8)) : List Value := l.flatMap fun x => [.string (strB x.1), .string (strB x.2), .int .i64 0]

theorem fileCells_one (l : List (List UInt8 × List UInt8)) : ∀ u ∈ fileCells l, u.oneCell' = true := by
  intro u hu
  unfold fileCells at hu
  obtain ⟨p, _, hp⟩ := List.mem_flatMap.1 hu
  simp only [List.mem_cons, List.not_mem_nil, or_false] at hp
  rcases hp with rfl | rfl | rfl <;> rfl

theorem bytesBefore_irrefl : ∀ a : List UInt8, bytesBefore a a = false
  | [] => rfl
  | a :: r => by unfold bytesBefore; simp [bytesBefore_irrefl r, UInt8.lt_irrefl]

theorem srt_find {β : Type} {l : List (List UInt8 × β)} (h : Srt l) {k : Nat} {x : List UInt8 × β} (hx : l[k]? = some x) : nfind l x.1 = some x.2 := by
  induction l generalizing k with
  | nil => simp at hx
  | cons y r ih =>
    cases k with
    | zero =>
      simp at hx
      subst hx
      simp [nfind]
    | succ k =>
      simp at hx
      have hm := List.mem_of_getElem? hx
      have hb := (List.pairwise_cons.1 h).1 x hm
      have hne : ¬ y.1 = x.1 := fun e => by rw [e, bytesBefore_irrefl] at hb; cases hb
      unfold nfind
      rw [List.find?_cons_of_neg (by simpa using hne)]
      exact ih (List.pairwise_cons.1 h).2 hx

/-- A row that is owned: where it lies. -/
theorem own_form {w : World} {B e size n : Nat} {v : Value} {cs : List Value} (h : w.ownsRow B e size v n cs) (hn : 0 < n) : ∃ g cap cur, v = .slice (some ⟨g, 0, none⟩) n cap ∧ n ≤ cap ∧ cap ≤ maxLen ∧ w.heap[g]? = some (.cells cur e (0, 0)) ∧
    (∀ j u, cs[j]? = some u → w.cell? ⟨g, j, none⟩ = some u) ∧ (∀ j, w.frozen? ⟨g, j, none⟩ = false) := by
  obtain ⟨h0, h1⟩ := h
  rcases h1 with ⟨rfl, rfl⟩ | ⟨g, cap, cur, rfl, _, hg, hn', hm, hs, htake⟩
  · omega
  · refine ⟨g, cap, cur, rfl, hn', hm, hg, fun j u hj => ?_, fun j => blk_free hg⟩
    rw [blk_cell hg]
    rw [← htake, List.getElem?_take] at hj
    split at hj
    · simpa using hj
    · cases hj

theorem fld_obj (s : ByteArray) (w : World) : (Instr.field 67 (.agg #[.string s]) 0).run Tryz.prog w = .ok (.string s) w := by kernel_rfl

/-- Names that are short. -/
def NmS (l : List (List UInt8 × List UInt8)) : Prop := ∀ x ∈ l, x.1.length ≤ 1000

set_option maxRecDepth 100000 in
set_option maxHeartbeats 4000000 in
set_option linter.unusedSimpArgs false in
theorem farObjs_at {G : Nat → Prop} {w : World} {p : Nat} {f : FR} (h : FarAt G w p f) (hol : f.objs.length < 1000000) (hns : NmS f.objs) :
    Calls Tryz.prog 8 #[.pointer (some ⟨p, 0, none⟩)] w fun e w' => ∃ v, e = .returned v ∧ w'.ownsRow w.heap.size 64 3 v f.objs.length (fileCells f.objs) ∧ Below w.heap.size w w' := by
  obtain ⟨⟨mv, lv, h1, h2, h3, h4, h5⟩, gp, glt⟩ := h
  have c0 : w.cell? ⟨p, 0, none⟩ = some mv := blk_cell h1
  have HSRT := Lib.hid h2.srt
  have HR := Lib.hid (farRising_any w p mv f.objs c0 h2 (by omega))
  have HP := Lib.hid h1
  have HOM := Lib.hid h2
  have HNS := Lib.hid hns
  clear h1 h2 h3 h4 h5 hns c0
  go_enter Tryz.func8, Tryz.ntmps8
  go_wp2_with (go_at_call 30; refine HR.out.mono ?_; rintro e w1 ⟨nv, rfl, hnr, hB1⟩; obtain ⟨na, ncap, hnv, _, _⟩ := rd_of_own hnr; subst hnv; have HNR := Lib.hid hnr; have HB1 := Lib.hid hB1; clear hnr hB1)
  obtain ⟨B1, hB1e⟩ : ∃ B, B = w1.heap.size := ⟨_, rfl⟩
  have HBE := Lib.hid hB1e
  clear hB1e
  go_loopw [3, 11] (fun lv i wr => ∃ (k : Nat) (v : Value), k ≤ f.objs.length ∧ i = .int .i64 k ∧ v = lv ∧ wr.ownsRow B1 64 3 v k (fileCells (f.objs.take k)) ∧ Below B1 w1 wr) (fun _ i _ => f.objs.length - (intOf i).toNat)
  case atStart => exact ⟨0, _, Nat.zero_le _, rfl, rfl, World.ownsRow_nil _ _ _ _, Below.refl _ _⟩
  case round =>
    obtain ⟨k, v, hk, rfl, rfl, hv, hB⟩ := hrel
    have HV := Lib.hid hv
    have HBW := Lib.hid hB
    clear hv hB
    by_cases hlt : k < f.objs.length
    · obtain ⟨xn, hxn⟩ : ∃ xn, f.objs[k]? = some xn := ⟨_, List.getElem?_eq_getElem hlt⟩
      have hfnd := srt_find HSRT.out hxn
      have hmem := List.mem_of_getElem? hxn
      obtain ⟨nb, ncap2, ncur, hnv2, _, _, hnb, hncell, _⟩ := own_form HNR.out (by omega)
      cases hnv2
      have hnbl := blk_lt hnb
      have hBE := HBE.out
      have ecell : wr.cell? ⟨nb, k, none⟩ = some (.string (strB xn.1)) := by
        refine (HBW.out.cell (p := ⟨nb, k, none⟩) (by show nb < B1; omega)).trans (hncell k _ ?_)
        unfold nmCells; rw [List.getElem?_map, hxn]; rfl
      have hszw := HBW.out.size
      have hszb := HB1.out.size
      have hBall : Below w.heap.size w wr := HB1.out.trans (HBW.out.mono (by omega))
      have ep : wr.cell? ⟨p, 0, none⟩ = some mv := blk_cell ((hBall.block p (blk_lt HP.out)).trans HP.out)
      have hss : (strB xn.1).size ≤ maxLen := by rw [strB_size]; have := HNS.out xn hmem; unfold maxLen; omega
      have hl := om_look1 (HOM.out.kept (Kept.of hBall (R := fun k => k < w.heap.size) fun _ h => h) HOM.out.lt) (strB xn.1) hss (b := xn.2) hfnd
      have hstep : f.objs.take (k + 1) = f.objs.take k ++ [xn] := by
        obtain ⟨h1, h2⟩ := List.getElem?_eq_some_iff.1 hxn
        rw [List.take_succ_eq_append_getElem h1, h2]
      have HSTEP := Lib.hid hstep
      have hfl := fld_obj
      clear hfnd hmem hnb hncell hstep hss hxn
      go_wp2_with (at_builtin; refine wpList_append_rd rfl (.tmp 15) (.tmp 25) 27 rfl B1 64 3 40 (.agg #[.string ⟨#[]⟩, .string ⟨#[]⟩, .int .i64 0]) Tryz.underlying27 info_afile rfl (by decide) v _ k 1 (fileCells (f.objs.take k)) (fileCells [xn]) rfl rfl (World.ownsRow.alloc HV.out _) ?rd (fileCells_one _) ?bb ?l1 ?l2 ?kk)
      case rd => exact ⟨_, 1, rfl, Nat.le_refl _, by unfold maxLen; omega, rfl, .inr ⟨wr.heap.size, 0, rfl, by simp, fun j u hj => by rw [blk_cell (heap_alloc_new wr _)]; simpa [fileCells] using hj⟩⟩
      case bb => simp; omega
      case l1 => omega
      case l2 => unfold maxLen; omega
      case kk =>
        intro v' w' ho hBk
        have hb' := hBk B1 w1 (by omega) (HBW.out.alloc (by omega) _)
        have HO' := Lib.hid ho
        have HB' := Lib.hid hb'
        clear ho hBk hb'
        go_wp2
        go_roundw
        case rel =>
          refine ⟨k + 1, v', by omega, by go_num, rfl, ?_, HB'.out⟩
          have e1 : fileCells (f.objs.take (k + 1)) = fileCells (f.objs.take k) ++ fileCells [xn] := by rw [HSTEP.out]; simp [fileCells]
          rw [e1, hBE]
          exact HO'.out
        case measure => simp [intOf]; omega
    · go_wp2
      go_ret
      refine ⟨v, rfl, ?_, HB1.out.trans (HBW.out.mono (by have := HBE.out; have := HB1.out.size; omega))⟩
      have hkn : k = f.objs.length := by omega
      have hv := HV.out
      rw [hkn, List.take_length] at hv
      exact own_base hv fun j e => by have := (World.ownsRow.lt hv j e).1; have := HBE.out; have := HB1.out.size; omega

theorem farObjs_nil (w : World) : Calls Tryz.prog 8 #[.pointer none] w fun e w' => e = .returned (.slice none 0 0) ∧ w = w' := by
  go_enter Tryz.func8, Tryz.ntmps8
  go_wp2
  go_ret
  exact ⟨rfl, rfl⟩

theorem enters_farList1 : Enters Tryz.prog 56 := enters_of Tryz.func56 (by kernel_rfl) rfl

theorem farList1_any (w : World) : Calls Tryz.prog 56 #[] w fun e w' => e = .returned (.int .i64 0) ∧ w' = w := by
  go_enter Tryz.func56, Tryz.ntmps56
  go_wp2
  go_ret
  exact ⟨rfl, rfl⟩

theorem tells_zero {out : Int} {e : Nat} : tells out e = 0 ↔ (out ≠ 1 ∧ out ≠ 2 ∧ e = 0) := by
  unfold tells
  by_cases h1 : out = 1 <;> by_cases h2 : out = 2 <;> simp [h1, h2]

set_option maxRecDepth 100000 in
set_option maxHeartbeats 1000000 in
theorem farList_at2 {G : Nat → Prop} {w : World} {p : Nat} {f : FR} (h : FarAt G w p f) (hol : f.objs.length < 1000000) (hcl : f.calls < 1000000000000) :
    Calls Tryz.prog 39 #[.pointer (some ⟨p, 0, none⟩)] w fun e w' => ∃ v G', e = .returned (.tuple #[v, .int .i64 (f.list.2 : Int)]) ∧ FarAt G' w' p f.took ∧ Touch G w w' ∧ Grows G G' w w' ∧ w'.ownsRow w.heap.size 9 1 v f.list.1.length (f.list.1.map fun n => .string (strB n)) ∧ ∀ k, v.ownBlock = some k → ¬ G' k := by
  have hc := far_call h hcl 56 #[] #[] enters_farList1 0 id fun w1 h1 hk hs => (farList1_any w1).mono fun e w2 ⟨h2, h3⟩ => ⟨h2, by subst h3; exact ⟨G, h1, Touch.refl _ _, Grows.refl _ _ _⟩⟩
  have hdn : f.does id = f.took := by unfold FR.does; split <;> rfl
  rw [hdn] at hc
  have HC := Lib.hid hc
  clear hc
  obtain ⟨te, hte⟩ : ∃ te, te = tells f.out 0 := ⟨_, rfl⟩
  have hl1 : f.list.2 = te := by rw [hte]; rfl
  rw [hl1]
  rw [← hte] at HC
  have hq : ((te : Int) == 0) = decide (te = 0) := by by_cases h : te = 0 <;> simp [h]
  by_cases h0 : te = 0
  · subst h0
    have hl2 : f.list.1 = f.objs.map (·.1) := by unfold FR.list; rw [← hte]; rfl
    rw [hl2, List.map_map, List.length_map]
    have HR := Lib.hid (fun (w2 : World) (hto : FarTo G w w2 p f.took) => hto)
    clear hl1 hl2 hq hte
    go_enter Tryz.func39, Tryz.ntmps39
    go_wp2_with (first | (go_at_call 44; (with_reducible refine HC.out.mono ?_); rintro e w2 ⟨rfl, G2, h2, ht2, hg2⟩; obtain ⟨⟨mv, lv, k1, k2, k3, k4, k5⟩, gp, glt⟩ := h2; have hr := farRising_any w2 p mv f.took.objs (blk_cell k1) k2 (by show f.objs.length < _; omega); have HR2 := Lib.hid hr; have H2 := Lib.hid (show FarAt G2 w2 p f.took from ⟨⟨mv, lv, k1, k2, k3, k4, k5⟩, gp, glt⟩); clear hr k1 k2 k3 k4 k5) | (go_at_call 30; refine HR2.out.mono ?_; rintro e w3 ⟨v, rfl, hrow, hb3⟩))
    go_ret2
    refine ⟨v, G2, rfl, H2.out.below hb3, ht2.trans (Touch.of_below (F := G2) hb3) hg2, fun k hk => (hg2 k hk).imp id fun h => ⟨h.1, Nat.lt_of_lt_of_le h.2 hb3.size⟩, ?_, fun k e hk => by have := H2.out.lt k hk; have := (World.ownsRow.lt hrow k e).1; omega⟩
    have : nmCells f.took.objs = f.objs.map ((fun n => Value.string (strB n)) ∘ fun x => x.1) := rfl
    rw [← this]
    exact own_base hrow fun k hk => Nat.le_trans ht2.size (World.ownsRow.lt hrow k hk).1
  · have hl2 : f.list.1 = [] := by unfold FR.list; rw [← hte]; simp [h0]
    rw [hl2]
    have hne : ¬ (te : Int) = 0 := by omega
    clear hl1 hl2 hte
    go_enter Tryz.func39, Tryz.ntmps39
    go_wp2_with (go_at_call 44; (with_reducible refine HC.out.mono ?_); rintro e w2 ⟨rfl, G2, h2, ht2, hg2⟩)
    go_ret2
    exact ⟨_, G2, rfl, h2, ht2, hg2, World.ownsRow_nil _ _ _ _, fun k e => by cases e⟩

theorem farList_at {G : Nat → Prop} {w : World} {p : Nat} {f : FR} (h : FarAt G w p f) (hol : f.objs.length < 1000000) (hcl : f.calls < 1000000000000) :
    Calls Tryz.prog 39 #[.pointer (some ⟨p, 0, none⟩)] w fun e w' => ∃ v, e = .returned (.tuple #[v, .int .i64 (f.list.2 : Int)]) ∧ FarTo G w w' p f.took ∧ w'.ownsRow w.heap.size 9 1 v f.list.1.length (f.list.1.map fun n => .string (strB n)) := by
  refine (farList_at2 h hol hcl).mono ?_
  rintro e w' ⟨v, G', rfl, h1, h2, h3, h4, _⟩
  exact ⟨v, rfl, ⟨G', h1, h2, h3⟩, h4⟩
end Go.Proofs.YtljjgpjaleekdaaGreatDoor
