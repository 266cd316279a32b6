import Derived.Test.YtmlijnekidihbaaMg00

/-
  All files of a disk, by rising names (Files); Size.
-/
namespace Go.Proofs.Ytmlijnekidihbaa
open Go.RowKit

def fiCells (l : List (List UInt8 × List UInt8 × Nat)) : List Value := l.flatMap fun x => [.string (strB x.1), .string (strB x.2.1), .int .i64 (x.2.2 : Int)]
def PD.list (d : PD) : List (List UInt8 × List UInt8 × Nat) := d.names.map fun x => (x.1, (d.file x.2).now, (d.file x.2).many)

theorem fi_one (l : List (List UInt8 × List UInt8 × Nat)) : ∀ u ∈ fiCells l, u.oneCell' = true := by
  intro u hu
  unfold fiCells at hu
  obtain ⟨p, _, hp⟩ := List.mem_flatMap.1 hu
  simp only [List.mem_cons, List.not_mem_nil, or_false] at hp
  rcases hp with rfl | rfl | rfl <;> rfl

theorem srt_find {l : DB} (h : Srt l) {k : Nat} {x : List UInt8 × Nat} (hx : l[k]? = some x) : dfind l x.1 = some x.2 := by
  induction l generalizing k with
  | nil => simp at hx
  | cons y r ih =>
    cases k with
    | zero =>
      simp at hx
      subst hx
      simp [dfind]
    | succ k =>
      simp at hx
      have hm := List.mem_of_getElem? hx
      have hne := srt_ne h x hm
      unfold dfind
      rw [List.find?_cons_of_neg (by simpa using fun e => hne e.symm)]
      exact ih (List.pairwise_cons.1 h).2 hx

end Go.Proofs.Ytmlijnekidihbaa

/-
  The names as they are, made safe (what 'settle' of a disk does).
-/
namespace Go.Proofs.Ytmlijnekidihbaa
open Go.RowKit

/-- Names with their places. -/
def numb (l : DB) : DB := l.zipIdx.map fun y => (y.1.1, y.2)

def PD.settled (d : PD) : PD := { d with files := d.names.map fun x => d.file x.2, names := numb d.names, safe := numb d.names, loose := [] }

theorem before_not {a b : List UInt8} (h : bytesBefore a b = true) : bytesBefore b a = false := by
  rw [bytesBefore_cmpL] at h ⊢
  rw [cmpL_turn b a] 
  simp only [beq_iff_eq] at h
  rw [h]
  rfl

theorem dwith_last {l : DB} {n : List UInt8} {id : Nat} (h : ∀ x ∈ l, bytesBefore x.1 n = true) : dwith l n id = l ++ [(n, id)] := by
  have h1 : dwithout l n = l := by
    unfold dwithout
    refine List.filter_eq_self.2 fun x hx => ?_
    have := h x hx
    by_cases e : x.1 = n
    · rw [e, bytesBefore_cmpL, (cmpL_zero n n).2 rfl] at this
      simp at this
    · simpa using e
  have h2 : ∀ r : DB, (∀ x ∈ r, bytesBefore x.1 n = true) → dput r n id = r ++ [(n, id)] := by
    intro r
    induction r with
    | nil => intro _; rfl
    | cons x r ih =>
      intro hr
      have hx : above x n = false := by
        have := before_not (hr x (by simp))
        rw [bytesBefore_cmpL] at this
        exact this
      unfold dput
      rw [hx, if_neg (by simp), ih fun y hy => hr y (by simp [hy])]
      rfl
  unfold dwith
  rw [h1, h2 l h]

theorem numb_length (l : DB) : (numb l).length = l.length := by simp [numb]

theorem numb_snoc {l : DB} (h : Srt l) {k : Nat} {x : List UInt8 × Nat} (hx : l[k]? = some x) : numb (l.take (k + 1)) = dwith (numb (l.take k)) x.1 k := by
  obtain ⟨hk, rfl⟩ := List.getElem?_eq_some_iff.1 hx
  have hlen : (l.take k).length = k := by rw [List.length_take]; omega
  rw [dwith_last]
  · rw [List.take_succ_eq_append_getElem hk]
    unfold numb
    rw [List.zipIdx_append, List.map_append, hlen]
    simp
  · intro y hy
    unfold numb at hy
    obtain ⟨z, hz, rfl⟩ := List.mem_map.1 hy
    obtain ⟨hz1, hz2, hz3⟩ := List.mem_zipIdx hz
    show bytesBefore z.1.1 _ = true
    rw [hz3, List.getElem_take]
    have hz4 : z.2 < k := by rw [hlen] at hz2; omega
    exact List.pairwise_iff_getElem.1 h _ _ (by omega) hk (by simpa using hz4)

/-- The disk's parts, put together anew. -/
theorem DiskAt.settle {g : Gh} {w w' : World} {p : Nat} {d : PD} (h : DiskAt g w p d) (hid : ∀ x ∈ d.names, x.2 < d.files.length) (hnd : (d.names.map (·.2)).Nodup) (v nm sm : Value)
    (hk : Kept (fun k => k < w.heap.size ∧ k ≠ p) w w')
    (hb : w'.heap[p]? = some (.cells #[.int .i64 d.room, .int .i64 d.crash, .bool d.done, .int .i64 (d.calls : Int), .bool d.down, v, nm, sm, .slice none 0 0] 60 (0, 0)))
    (hv : w'.ownsRow w.heap.size 93 3 v d.names.length (gfCells (d.names.map fun x => g.l.getD x.2 g.newF))) (hn : Nm w' nm (numb d.names)) (hs : Nm w' sm (numb d.names))
    (an : ∀ k, mapBlock nm = some k → w.heap.size ≤ k) (as_ : ∀ k, mapBlock sm = some k → w.heap.size ≤ k) (dvn : ∀ k, v.ownBlock = some k → mapBlock nm ≠ some k) (dvs : ∀ k, v.ownBlock = some k → mapBlock sm ≠ some k) (dns : ∀ k, mapBlock nm = some k → mapBlock sm ≠ some k) :
    ∃ g', DiskAt g' w' p d.settled ∧ Step g g' w w' := by
  have hll : g.l.length = d.files.length := by rw [h.fl, List.length_map]
  have hout : ∀ k, w.heap.size ≤ k → g.o k = .out := fun k hk => out_of h hk
  let o1 := claim g.o (mapBlock sm) .safe
  let o2 := claim o1 (mapBlock nm) .names
  let o3 := claim o2 v.ownBlock .files
  have k1 : ∀ k, g.o k ≠ .out → o1 k = g.o k := fun k => claim_keep fun k e => .inr (hout k (as_ k e))
  have k2 : ∀ k, g.o k ≠ .out → o2 k = g.o k := fun k hk => by
    refine (claim_keep (fun k e => ?_) (by rw [k1 k hk]; exact hk)).trans (k1 k hk)
    exact .inr ((claim_old (dns k e)).trans (hout k (an k e)))
  have hvl : ∀ k, v.ownBlock = some k → w.heap.size ≤ k := fun k e => (World.ownsRow.lt hv k e).1
  have k3 : ∀ k, g.o k ≠ .out → o3 k = g.o k := fun k hk => by
    refine (claim_keep (fun k e => ?_) (by rw [k2 k hk]; exact hk)).trans (k2 k hk)
    exact .inr (((claim_old (dvn k e)).trans (claim_old (dvs k e))).trans (hout k (hvl k e)))
  have hF : ∀ k, o3 k ≠ .out → g.o k ≠ .out ∨ (w.heap.size ≤ k ∧ k < w'.heap.size) := by
    intro k hk
    rcases claim_F hk with h1 | h1
    · rcases claim_F h1 with h1 | h1
      · rcases claim_F h1 with h1 | h1
        · exact .inl h1
        · exact .inr ⟨as_ k h1, hs.lt k h1⟩
      · exact .inr ⟨an k h1, hn.lt k h1⟩
    · exact .inr ⟨hvl k h1, own_lt hv k h1⟩
  have inv : ∀ k s, o3 k = s → s ≠ .files → s ≠ .names → s ≠ .safe → g.o k = s := fun k s e h1 h2 h3 => claim_role (claim_role (claim_role e h1) h2) h3
  have hmem : ∀ x ∈ d.names, g.l.getD x.2 g.newF ∈ g.l ∧ (g.l.getD x.2 g.newF).2 = d.file x.2 := by
    intro x hx
    have hi := hid x hx
    have hi' : x.2 < g.l.length := by omega
    rw [List.getD_eq_getElem?_getD, List.getElem?_eq_getElem hi']
    refine ⟨List.getElem_mem hi', ?_⟩
    unfold PD.file
    rw [List.getD_eq_getElem?_getD, h.fl, List.getElem?_map, List.getElem?_eq_getElem hi']
    rfl
  refine ⟨⟨o3, d.names.map fun x => g.l.getD x.2 g.newF, g.top, v, nm, sm, .slice none 0 0⟩, ⟨hb, ?_, ?_, fun y hy => ?_, ?_, fun y hy => ?_, fun k t hk' => ?_, ?_, fun k e => claim_at e, hn, fun k e => ?_, hs, fun k e => ?_, World.ownsRow_nil _ _ _ _, fun k e => (by cases e), fun k hk' => ?_⟩, ?_, fun k hk' => ?_⟩
  · exact (k3 p (by rw [h.rol]; simp)).trans h.rol
  · show (d.names.map fun x => d.file x.2) = (d.names.map fun x => g.l.getD x.2 g.newF).map (·.2)
    rw [List.map_map]
    exact List.map_congr_left fun x hx => (hmem x hx).2.symm
  · obtain ⟨x, hx, rfl⟩ := List.mem_map.1 hy
    have hy' := (hmem x hx).1
    refine FileAt.role ((h.fa _ hy').kept hk fun k e => ⟨h.olt k ?_, fun ep => ?_⟩) fun k e => k3 k ?_
    · rcases e with e | e | e <;> rw [e] <;> simp
    · subst ep; rw [h.rol] at e; simp at e
    · rcases e with e | e | e <;> rw [e] <;> simp
  · show ((d.names.map fun x => g.l.getD x.2 g.newF).map (·.1.tok)).Nodup
    rw [List.map_map]
    have hnd' := h.nod
    have : ∀ l : DB, (∀ x ∈ l, x.2 < g.l.length) → (l.map (·.2)).Nodup → (l.map ((fun x : GF × PF => x.1.tok) ∘ fun x => g.l.getD x.2 g.newF)).Nodup := by
      intro l
      induction l with
      | nil => intro _ _; exact List.nodup_nil
      | cons x r ih =>
        intro hl hn
        rw [List.map_cons, List.nodup_cons] at hn ⊢
        refine ⟨fun hm => hn.1 ?_, ih (fun y hy => hl y (by simp [hy])) hn.2⟩
        obtain ⟨y, hy, e⟩ := List.mem_map.1 hm
        have hx' := hl x (by simp)
        have hy' := hl y (by simp [hy])
        simp only [Function.comp, List.getD_eq_getElem?_getD, List.getElem?_eq_getElem hx', List.getElem?_eq_getElem hy', Option.getD_some] at e
        have e2 : y.2 = x.2 := by
          apply Classical.byContradiction
          intro hne
          rcases Nat.lt_or_gt_of_ne hne with h1 | h1
          · exact List.pairwise_iff_getElem.1 hnd' y.2 x.2 (by simpa using hy') (by simpa using hx') h1 (by simpa using e)
          · exact List.pairwise_iff_getElem.1 hnd' x.2 y.2 (by simpa using hx') (by simpa using hy') h1 (by simpa using e.symm)
        exact List.mem_map.2 ⟨y, hy, e2⟩
    exact this d.names (fun x hx => by have := hid x hx; omega) hnd
  · obtain ⟨x, hx, rfl⟩ := List.mem_map.1 hy
    exact h.lt _ (hmem x hx).1
  · refine h.otop k t ?_
    rcases hk' with e | e | e
    · exact .inl (inv k _ e (by simp) (by simp) (by simp))
    · exact .inr (.inl (inv k _ e (by simp) (by simp) (by simp)))
    · exact .inr (.inr (inv k _ e (by simp) (by simp) (by simp)))
  · show w'.ownsRow 0 _ 3 v (d.names.map fun x => g.l.getD x.2 g.newF).length _
    rw [List.length_map]
    exact own_base hv fun _ _ => Nat.zero_le _
  · exact (claim_old (fun e' => dvn k e' e)).trans (claim_at e)
  · exact (claim_old (fun e' => dvs k e' e)).trans ((claim_old (fun e' => dns k e' e)).trans (claim_at e))
  · rcases hF k hk' with h1 | h1
    · exact Nat.lt_of_lt_of_le (h.olt k h1) hk.size
    · exact h1.2
  · exact Kept.mono hk fun k hk' => ⟨hk'.1, fun e => by subst e; exact hk'.2 (by unfold Gh.F; rw [h.rol]; simp)⟩
  · rcases hF k hk' with h1 | h1
    · exact .inl h1
    · exact .inr h1.1

set_option maxRecDepth 100000 in
set_option maxHeartbeats 4000000 in
set_option linter.unusedSimpArgs false in
theorem settle_at {g : Gh} {w : World} {p : Nat} {d : PD} (h : DiskAt g w p d) (hsm : Small d) (hnd : (d.names.map (·.2)).Nodup) :
    Calls Try.prog 36 #[.pointer (some ⟨p, 0, none⟩)] w fun e w' => e = .returned (.tuple #[]) ∧ ∃ g', DiskAt g' w' p d.settled ∧ Step g g' w w' := by
  have hnl := hsm.names
  have hpl := blk_lt h.blk
  obtain ⟨w1, hw1⟩ : ∃ w1, w1 = w.alloc (.map #[] 0) := ⟨_, rfl⟩
  have hb1 : Below w.heap.size w w1 := by subst hw1; exact (Below.refl _ _).alloc (Nat.le_refl _) _
  have hd1 := h.below hb1
  have hs1 : w1.heap.size = w.heap.size + 1 := by subst hw1; simp
  have hm1 : Nm w1 (.map (some w.heap.size)) [] := by subst hw1; exact .inr ⟨_, rfl, World.ownsMap_made w _ _ _⟩
  have c6 : w1.cell? ⟨p, 6, none⟩ = some g.nv := blk_cell hd1.blk
  have HR := Lib.hid (rising_any w1 p g.nv d.names c6 hd1.nr (by omega))
  have HSRT := Lib.hid h.nr.srt
  have HH := Lib.hid h
  have HD1 := Lib.hid hd1
  have HSM := Lib.hid hsm
  have HND := Lib.hid hnd
  have Hw1 := Lib.hid hw1
  have HB1 := Lib.hid hb1
  have HS1 := Lib.hid hs1
  have HM1 := Lib.hid hm1
  have hmm := @run_makeMap Try.prog
  clear h hd1 hsm hnd hw1 hb1 hs1 hm1 c6
  go_enter Try.func36, Try.ntmps36
  go_wp2_with (go_at_call 33; rw [← Hw1.out]; refine HR.out.mono ?_; rintro e w2 ⟨nv, rfl, hnr, hB2⟩; obtain ⟨na, ncap, hnv, _, _⟩ := rd_of_own hnr; subst hnv; have HNR := Lib.hid hnr; have HB2 := Lib.hid hB2; clear hnr hB2)
  obtain ⟨B2, hB2e⟩ : ∃ B, B = w2.heap.size := ⟨_, rfl⟩
  have HBE := Lib.hid hB2e
  clear hB2e
  go_loopw [3, 10] (fun lv i wr => ∃ (k : Nat) (v : Value), k ≤ d.names.length ∧ i = .int .i64 k ∧ v = lv ∧ wr.ownsRow B2 93 3 v k (gfCells ((d.names.map fun x => g.l.getD x.2 g.newF).take k)) ∧ Nm wr (.map (some w.heap.size)) (numb (d.names.take k)) ∧ Kept (fun j => j < B2 ∧ j ≠ w.heap.size) w2 wr) (fun _ i _ => d.names.length - (intOf i).toNat)
  case atStart => exact ⟨0, _, Nat.zero_le _, rfl, rfl, World.ownsRow_nil _ _ _ _, HM1.out.kept (Kept.of HB2.out (R := fun j => j < w1.heap.size) fun _ h => h) (fun j e => by cases e; have := HS1.out; omega), Kept.refl _ _⟩
  case round =>
    obtain ⟨k, v, hk, rfl, rfl, hv, hm, hkp⟩ := hrel
    have HV0 := Lib.hid hv
    have HM0 := Lib.hid hm
    have HKP := Lib.hid hkp
    have hs1 := HS1.out
    have hs2 := HB2.out.size
    have hbe := HBE.out
    have hswr := hkp.size
    obtain ⟨va, vc, hva, _, _⟩ := rd_of_own hv
    have HVA := Lib.hid hva
    clear hv hm hkp
    have hdw : DiskAt g wr p d := by
      refine HD1.out.kept (R := fun j => j < w.heap.size) ((Kept.of HB2.out fun j hj => by omega).trans (HKP.out.mono fun j hj => by omega)) fun j hj => HH.out.olt j hj
    subst hva
    have hva := HVA
    clear hva HVA
    have hB2k : ∀ j, (Value.slice va k vc).ownBlock = some j → B2 ≤ j := fun j e => (World.ownsRow.lt HV0.out j e).1
    by_cases hlt : k < d.names.length
    · obtain ⟨xn, hxn⟩ : ∃ xn, d.names[k]? = some xn := ⟨_, List.getElem?_eq_getElem hlt⟩
      have hfnd := srt_find HSRT.out hxn
      have hmem := List.mem_of_getElem? hxn
      obtain ⟨nb, ncap2, ncur, hnv2, _, _, hnb, hncell, _⟩ := own_form HNR.out (by omega)
      cases hnv2
      have hnbl := blk_lt hnb
      have hnbM : nb ≠ w.heap.size := fun e => by
        have := (World.ownsRow.lt HNR.out nb rfl).1
        omega
      have ecell : wr.cell? ⟨nb, k, none⟩ = some (.string (strB xn.1)) := by
        refine (HKP.out.cell (p := ⟨nb, k, none⟩) ⟨by show nb < B2; omega, hnbM⟩).trans (hncell k _ ?_)
        unfold nmCells; rw [List.getElem?_map, hxn]; rfl
      have hnm := HSM.out.nml xn hmem
      have hidl := HSM.out.idn xn hmem
      have hss : (strB xn.1).size ≤ maxLen := by rw [strB_size]; unfold maxLen; omega
      have hfind : ∀ w3, wr.grownBy w3 (some w.heap.size) → ∃ (fb cap : Nat) (x : GF) (f : PF), g.l.getD xn.2 g.newF = (x, f) ∧ DiskAt g w3 p d ∧ FileAt g.o w3 x f ∧ w3.cell? ⟨fb, xn.2 * 3, none⟩ = some x.vs ∧ w3.cell? ⟨fb, xn.2 * 3 + 1, none⟩ = some x.vn ∧ w3.cell? ⟨fb, xn.2 * 3 + 2, none⟩ = some x.vl ∧
          Calls Try.prog 34 #[.pointer (some ⟨p, 0, none⟩), .string (strB xn.1)] w3 fun e w' => e = .returned (.pointer (some ⟨fb, xn.2 * 3, none⟩)) ∧ w3 = w' := by
        intro w3 hg3
        have hd3 : DiskAt g w3 p d := hdw.kept (R := fun j => j < w.heap.size) ⟨hg3.os, hg3.tape, hg3.output, hg3.size, fun j hj => hg3.block j (by omega) (fun e => by cases e; omega)⟩ fun j hj => HH.out.olt j hj
        rcases find_at hd3 (strB xn.1) hss HSM.out.idn with ⟨hf, _⟩ | ⟨id, fb, cap, x, f, hf, hidl, hfv, hx, hff, hofb, hfbl, hfa, e0, e1, e2, ef, hcall⟩
        · have : (strB xn.1).data.toList = xn.1 := rfl
          rw [this, hfnd] at hf; cases hf
        · have : (strB xn.1).data.toList = xn.1 := rfl
          rw [this, hfnd] at hf
          obtain rfl : xn.2 = id := by simpa using hf
          exact ⟨fb, cap, x, f, by rw [List.getD_eq_getElem?_getD, hx]; rfl, hd3, hfa, e0, e1, e2, hcall⟩
      have hstep : (d.names.map fun x => g.l.getD x.2 g.newF).take (k + 1) = (d.names.map fun x => g.l.getD x.2 g.newF).take k ++ [g.l.getD xn.2 g.newF] := by
        have : (d.names.map fun x => g.l.getD x.2 g.newF)[k]? = some (g.l.getD xn.2 g.newF) := by rw [List.getElem?_map, hxn]; rfl
        obtain ⟨h1, h2⟩ := List.getElem?_eq_some_iff.1 this
        rw [List.take_succ_eq_append_getElem h1, h2]
      have hsn := numb_snoc HSRT.out hxn
      have hnl2 : (numb (d.names.take k)).length < 1000000000000 := by rw [numb_length, List.length_take]; omega
      have HSTEP := Lib.hid hstep
      have HSN := Lib.hid hsn
      have HF := Lib.hid hfind
      have HDW := Lib.hid hdw
      have hq := eqf_nil
      clear hxn hfnd hmem hnb hncell hfind hstep hsn hdw
      go_wp2_with (at_mapUpdate; refine wpList_plain rfl fun K' hK' => ?_; refine wp_nm_put (.tmp 14) (.tmp 15) (.tmp 17) 57 rfl (.map (some w.heap.size)) (numb (d.names.take k)) xn.1 k rfl rfl rfl rfl hss ⟨_, rfl⟩ HM0.out (by unfold maxLen; omega) (fun w3 hm3 hg3 hz3 => hK' _ _ ?_) (by omega))
      obtain ⟨fb, cap, x, f, hxf, hd3, hfa3, e0, e1, e2, hcall⟩ := HF.out w3 hg3
      have HC := Lib.hid hcall
      have HM3 := Lib.hid hm3
      have HG3 := Lib.hid hg3
      have HXF := Lib.hid hxf
      have HFA3 := Lib.hid hfa3
      have hvf1 := own_one hfa3.vs
      obtain ⟨sa, sc, hvs, _, _⟩ := RdB.form hfa3.vs.read
      obtain ⟨na2, nc2, hvn, _, _⟩ := RdB.form hfa3.vn.read
      obtain ⟨la2, lc2, hvl, _, _⟩ := rd_of_own hfa3.vl
      rw [hvs] at e0
      rw [hvn] at e1
      rw [hvl] at e2
      have hrow3 : w3.ownsRow B2 93 3 (.slice va k vc) k (gfCells ((d.names.map fun x => g.l.getD x.2 g.newF).take k)) := own_kept HV0.out (R := fun j => B2 ≤ j ∧ j < wr.heap.size) ⟨hg3.os, hg3.tape, hg3.output, hg3.size, fun j hj => hg3.block j hj.2 (fun e => by cases e; omega)⟩ fun j e => ⟨hB2k j e, own_lt HV0.out j e⟩
      have hsz3 : w3.heap.size = wr.heap.size := hz3
      have HROW3 := Lib.hid hrow3
      have HVS := Lib.hid hvs
      have HVN := Lib.hid hvn
      have HVL := Lib.hid hvl
      clear hcall hm3 hg3 hxf hfa3 hd3 hrow3 hz3 hvs hvn hvl hvf1
      go_wp2_with (first | (go_at_call 34; refine HC.out.mono ?_; rintro e w5 ⟨rfl, rfl⟩) | (at_builtin; refine wpList_plain rfl fun K' hK' => ?_; refine wp_append_at (.tmp 18) (.tmp 24) 56 rfl 93 3 72 (.agg #[.slice none 0 0, .slice none 0 0, .slice none 0 0]) Try.underlying56 info_file rfl (by decide) (.slice va k vc) _ k 1 (gfCells ((d.names.map fun x => g.l.getD x.2 g.newF).take k)) (gfCells [(x, f)]) rfl rfl ?own ?rd ?one (by omega) (by unfold maxLen; omega) (fun v5 w5 ho5 hm5 => hK' _ _ ?_)))
      case own => exact own_kept (own_base HROW3.out fun _ _ => Nat.zero_le _) (R := fun j => j < w3.heap.size) (Kept.of ((Below.refl _ _).alloc (Nat.le_refl _) _) fun _ h => h) fun j e => own_lt HROW3.out j e
      case rd => exact ⟨_, 1, rfl, Nat.le_refl _, by unfold maxLen; omega, rfl, .inr ⟨w3.heap.size, 0, by rw [hsz3], by simp, fun j u hj => by rw [Nat.zero_add, blk_cell (heap_alloc_new w3 _)]; simpa [gfCells, HVS.out, HVN.out, HVL.out] using hj⟩⟩
      case one =>
        intro u hu
        simp [gfCells, HVS.out, HVN.out, HVL.out] at hu
        rcases hu with rfl | rfl | rfl <;> rfl
      go_roundw
      case rel =>
        have hg3 := HG3.out
        refine ⟨k + 1, v5, by omega, by go_num, rfl, ?_, ?_, ?_⟩
        · rw [HSTEP.out, HXF.out]
          have e1 : gfCells ((d.names.map fun x => g.l.getD x.2 g.newF).take k ++ [(x, f)]) = gfCells ((d.names.map fun x => g.l.getD x.2 g.newF).take k) ++ gfCells [(x, f)] := by simp [gfCells]
          rw [e1]
          refine own_base ho5 fun j e => ?_
          rcases hm5.at_ j e with h | h
          · exact hB2k j h
          · simp at h; omega
        · rw [HSN.out]
          refine HM3.out.kept (R := fun j => j < w3.heap.size ∧ (Value.slice va k vc).ownBlock ≠ some j) ?_ fun j e => ?_
          · exact ((Kept.refl _ w3).alloc (fun j hj => hj.1) _).trans (hm5.kept fun j hj => ⟨by simp; omega, hj.2⟩)
          · cases e
            exact ⟨by omega, fun e => by have := hB2k _ e; omega⟩
        · refine (HKP.out.trans ⟨hg3.os, hg3.tape, hg3.output, hg3.size, fun j hj => hg3.block j (by omega) (fun e => by cases e; exact hj.2 rfl)⟩).trans (((Kept.refl _ w3).alloc (fun j hj => by omega) _).trans (hm5.kept fun j hj => ⟨by simp; omega, fun e => by have := hB2k _ e; omega⟩))
      case measure => simp [intOf]; omega
    · have hkn : k = d.names.length := by omega
      subst hkn
      have hcl := mclone_any wr (.map (some w.heap.size)) (numb d.names) (by have := HM0.out; rwa [List.take_length] at this)
      have HCL := Lib.hid hcl
      have HDW := Lib.hid hdw
      clear hcl hdw
      go_wp2_with (go_at_call 30; refine HCL.out.mono ?_; rintro e w6 ⟨sv, rfl, hs6, hB6, hl6⟩; obtain ⟨mb, hmb⟩ := (show ∃ mb, sv = .map mb by rcases hs6 with ⟨h, _⟩ | ⟨b, h, _⟩ <;> exact ⟨_, h⟩); subst hmb; have hd6 := HDW.out.below hB6; have c5 := blk_cell (i := 5) hd6.blk; have c6 := blk_cell (i := 6) hd6.blk; have c7 := blk_cell (i := 7) hd6.blk; have c8 := blk_cell (i := 8) hd6.blk; have f5 := blk_free (i := 5) hd6.blk; have f6 := blk_free (i := 6) hd6.blk; have f7 := blk_free (i := 7) hd6.blk; have f8 := blk_free (i := 8) hd6.blk; simp only [dCells] at c5 c6 c7 c8; have HS6 := Lib.hid hs6; have HB6 := Lib.hid hB6; have HL6 := Lib.hid hl6; have HD6 := Lib.hid hd6; clear hs6 hB6 hl6 hd6)
      go_end0
      have hpd := HH.out.rol
      have hb6s := HB6.out.size
      have hk6 : Kept (fun j => j < w.heap.size ∧ j ≠ p) w w6 := ((Kept.of HB1.out fun j hj => hj.1).trans (Kept.of HB2.out fun j hj => by omega)).trans ((HKP.out.mono fun j hj => by omega).trans (Kept.of HB6.out fun j hj => by omega))
      have hset : ∀ (R : Nat → Prop), (¬ R p) → Kept R w6 ((((w6.setCell ⟨p, 5, none⟩ (.slice va d.names.length vc)).setCell ⟨p, 6, none⟩ (.map (some w.heap.size))).setCell ⟨p, 7, none⟩ (.map mb)).setCell ⟨p, 8, none⟩ (.slice none 0 0)) := fun R hR => ((((Kept.refl R w6).setCell hR _).setCell hR _).setCell hR _).setCell hR _
      have hrow : w6.ownsRow B2 93 3 (.slice va d.names.length vc) d.names.length (gfCells ((d.names.map fun x => g.l.getD x.2 g.newF).take d.names.length)) := own_kept HV0.out (R := fun j => j < wr.heap.size) (Kept.of HB6.out fun _ h => h) fun j e => own_lt HV0.out j e
      rw [List.take_of_length_le (by simp)] at hrow
      have hm6 : Nm w6 (.map (some w.heap.size)) (numb d.names) := by
        have := HM0.out
        rw [List.take_length] at this
        exact this.kept (R := fun j => j < wr.heap.size) (Kept.of HB6.out fun _ h => h) fun j e => this.lt j e
      refine ⟨rfl, HH.out.settle HSM.out.idn HND.out (.slice va d.names.length vc) (.map (some w.heap.size)) (.map mb) (hk6.trans (hset _ fun h => h.2 rfl)) ?_ ?_ ?_ ?_ (fun j e => by cases e; exact Nat.le_refl _) (fun j e => by have := (HL6.out j e).1; omega) (fun j e e' => by cases e'; have := hB2k _ e; omega) (fun j e e' => by have := (HL6.out j e').1; have := own_lt HV0.out j e; omega) (fun j e e' => by cases e; have := (HL6.out _ e').1; omega)⟩
      · have h1 := blk_set (i := 8) (blk_set (i := 7) (blk_set (i := 6) (blk_set (i := 5) HD6.out.blk (.slice va d.names.length vc)) (.map (some w.heap.size))) (.map mb)) (.slice none 0 0)
        exact h1.trans (by simp [dCells])
      · exact own_base (own_kept hrow (R := fun j => j ≠ p) (hset _ fun h => h rfl) fun j e ep => by have := hB2k j e; omega) fun j e => by have := hB2k j e; omega
      · exact hm6.kept (R := fun j => j ≠ p) (hset _ fun h => h rfl) fun j e ep => by cases e; omega
      · exact HS6.out.kept (R := fun j => j ≠ p) (hset _ fun h => h rfl) fun j e ep => by have := (HL6.out j e).1; omega
end Go.Proofs.Ytmlijnekidihbaa

/-
  A file of a disk falls.
-/
namespace Go.Proofs.Ytmlijnekidihbaa
open Go.RowKit

def PF.fallen (f : PF) (n : Int) : PF := ⟨kept f.loose (rest n (manyL f.loose)) f.safe, kept f.loose (rest n (manyL f.loose)) f.safe, []⟩

theorem gf_set3 (l : List (GF × PF)) (i : Nat) (x : GF) (f f' : PF) (a b c : Value) (hx : l[i]? = some (x, f)) : gfCells (l.set i (⟨x.tok, a, b, c⟩, f')) = (((gfCells l).set (i * 3) a).set (i * 3 + 2) c).set (i * 3 + 1) b := by
  have h1 := gf_set2 l i x f f a c hx
  have hl : i < l.length := (List.getElem?_eq_some_iff.1 hx).1
  have h2 : gfCells ((l.set i ({ x with vs := a, vl := c }, f)).set i (⟨x.tok, a, b, c⟩, f')) = (gfCells (l.set i ({ x with vs := a, vl := c }, f))).set (i * 3 + 1) b :=
    flat_set (fun x : GF × PF => [x.1.vs, x.1.vn, x.1.vl]) 3 (fun _ => rfl) _ i 1 ({ x with vs := a, vl := c }, f) (⟨x.tok, a, b, c⟩, f') b (by omega) (by rw [List.getElem?_set, if_pos rfl, if_pos hl]) rfl
  rw [List.set_set, h1] at h2
  exact h2

theorem ffall_at {g : Gh} {w : World} {p : Nat} {d : PD} (h : DiskAt g w p d) (hsm : Small d) (id fb cap : Nat) (n : Int) (hn : (Lit.int .i64 n).wf = true) (x : GF) (f : PF) (hfv : g.fv = .slice (some ⟨fb, 0, none⟩) g.l.length cap) (hx : g.l[id]? = some (x, f)) :
    Calls Try.prog 35 #[.pointer (some ⟨fb, id * 3, none⟩), .int .i64 n] w fun e w' => e = .returned (.tuple #[]) ∧ ∃ g', DiskAt g' w' p { d with files := d.files.set id (f.fallen n) } ∧ Step g g' w w' := by
  have hmem : (x, f) ∈ g.l := List.mem_of_getElem? hx
  have hfa := h.fa _ hmem
  have hfd : f ∈ d.files := by rw [h.fl]; exact List.mem_map.2 ⟨_, hmem, rfl⟩
  obtain ⟨s1, s2, s3, s4, s5, s6⟩ := hsm.fl f hfd
  have hin : id < g.l.length := (List.getElem?_eq_some_iff.1 hx).1
  have hfrow := h.fr
  rw [hfv] at hfrow
  obtain ⟨fb', cap', cur, hv', _, _, hfb, hcur, _⟩ := own_form hfrow (by omega)
  cases hv'
  have hofb : g.o fb = .files := h.of fb (by rw [hfv]; rfl)
  have hat2 := fun j hj => flat_at (fun x : GF × PF => [x.1.vs, x.1.vn, x.1.vl]) 3 (fun _ => rfl) g.l id j hj
  rw [hx] at hat2
  have hcur0 : cur[id * 3]? = some x.vs := by rw [← blk_cell hfb]; exact hcur _ _ (hat2 0 (by omega))
  have hcur1 : cur[id * 3 + 1]? = some x.vn := by rw [← blk_cell hfb]; exact hcur _ _ (hat2 1 (by omega))
  have hcur2 : cur[id * 3 + 2]? = some x.vl := by rw [← blk_cell hfb]; exact hcur _ _ (hat2 2 (by omega))
  have hsfb : x.vs.ownBlock ≠ some fb := fun e => by have := hfa.os fb e; rw [hofb] at this; cases this
  have hlfb : x.vl.ownBlock ≠ some fb := fun e => by have := hfa.ol fb e; rw [hofb] at this; cases this
  have hsl : ∀ k, x.vs.ownBlock = some k → x.vl.ownBlock ≠ some k := fun k e e' => by have := hfa.os k e; rw [hfa.ol k e'] at this; cases this
  have hs6 := s6 (rest n (manyL f.loose))
  refine (ffall_any w fb (id * 3) n cur 93 x.vs x.vn x.vl f.safe f.loose hfb hcur0 hcur1 hcur2 hfa.vs hfa.vl hsfb hlfb hsl s5 (by omega) (by omega) hn (by omega)).mono ?_
  rintro e w3 ⟨rfl, vs', vn', r1, r1', r2, r3, r4, r5⟩
  have hrow := own_set hfrow hfb r2 (by simp) (gfCells (g.l.set id (⟨x.tok, vs', vn', .slice none 0 0⟩, f.fallen n))) (by rw [gf_set3 _ _ _ f _ _ _ _ hx]; simp)
    (fun ht => by rw [gf_set3 _ _ _ f _ _ _ _ hx, take_set, take_set, take_set, ht])
  rw [← hfv] at hrow
  have hset := h.set_file (w' := w3) id x ⟨x.tok, vs', vn', .slice none 0 0⟩ f (f.fallen n) hx rfl (r3.mono fun k hk => ⟨hk.1, fun e => hk.2.1 (by rw [hfv, e]; rfl), hk.2.2.1⟩) hrow r1 r1' (World.ownsRow_nil _ _ _ _)
    (fun k e => (r4 k e).imp (fun h => h) (fun h => h.1)) (fun k e => .inr (r5 k e).1) (fun k e => (by cases e)) (fun k e e' => (r5 k e').2.2 e) (fun k e e' => (by cases e')) (fun k e e' => (by cases e'))
  exact ⟨rfl, _, hset.1, hset.2⟩
end Go.Proofs.Ytmlijnekidihbaa

/-
  A disk falls.
-/
namespace Go.Proofs.Ytmlijnekidihbaa
open Go.RowKit

/-- The numbers of a plan. -/
def nthK (keep : List Int) (i : Nat) : Int := if keep = [] then 0 else keep.getD (i % keep.length) 0

def IntsAt (g : Gh) (w : World) (kv : Value) (keep : List Int) : Prop := (∃ a c, kv = .slice a 0 c ∧ keep = []) ∨ ∃ kb ko cap, kv = .slice (some ⟨kb, ko, none⟩) keep.length cap ∧ 0 < keep.length ∧ kb < w.heap.size ∧ ¬ g.F kb ∧ ∀ (i : Nat) (v : Int), keep[i]? = some v → w.cell? ⟨kb, ko + i, none⟩ = some (.int .i64 v)

/-- The files of the first 'k' names fall. -/
def fallF (keep : List Int) (l : DB) (fs : List PF) : Nat → List PF
  | 0 => fs
  | k + 1 => match l[k]? with
    | none => fallF keep l fs k
    | some x => (fallF keep l fs k).set x.2 (((fallF keep l fs k).getD x.2 PF.new).fallen (nthK keep k))

/-- The names as the first 'k' loose changes leave them. -/
def PD.redone (d : PD) (k : Nat) : PD := { d with names := (d.loose.take k).foldl ren d.safe }
def PD.fell (d : PD) (keep : List Int) (k : Nat) : PD := { d with files := fallF keep d.names d.files k }
def PD.begun (d : PD) (room crash : Int) (done : Bool) : PD := { d with room := room, crash := crash, done := done, calls := 0, down := false }

theorem redone_succ {d : PD} {k : Nat} {c : PC} (h : d.loose[k]? = some c) : d.redone (k + 1) = { d.redone k with names := ren (d.redone k).names c } := by
  obtain ⟨h1, h2⟩ := List.getElem?_eq_some_iff.1 h
  unfold PD.redone
  rw [List.take_succ_eq_append_getElem h1, List.foldl_append, h2]
  rfl
theorem fell_succ {d : PD} {keep : List Int} {k : Nat} {x : List UInt8 × Nat} (h : d.names[k]? = some x) : d.fell keep (k + 1) = { d.fell keep k with files := (d.fell keep k).files.set x.2 (((d.fell keep k).files.getD x.2 PF.new).fallen (nthK keep k)) } := by
  unfold PD.fell
  simp [fallF, h]

theorem out_step {g g' : Gh} {w w' : World} {k : Nat} (hk : k < w.heap.size) (hf : ¬ g.F k) (h : Step g g' w w') : w'.heap[k]? = w.heap[k]? ∧ ¬ g'.F k ∧ k < w'.heap.size :=
  ⟨h.touch.block k ⟨hk, hf⟩, fun e => by rcases h.new k e with h1 | h1; exact hf h1; omega, Nat.lt_of_lt_of_le hk h.touch.size⟩

theorem IntsAt.step {g g' : Gh} {w w' : World} {kv : Value} {keep : List Int} (hi : IntsAt g w kv keep) (h : Step g g' w w') : IntsAt g' w' kv keep := by
  rcases hi with hi | ⟨kb, ko, cap, h1, h2, h3, h4, h5⟩
  · exact .inl hi
  · obtain ⟨a1, a2, a3⟩ := out_step h3 h4 h
    exact .inr ⟨kb, ko, cap, h1, h2, a3, a2, fun i v e => (h.touch.cell (p := ⟨kb, ko + i, none⟩) ⟨h3, h4⟩).trans (h5 i v e)⟩

theorem begin_at {g : Gh} {w : World} {p : Nat} {d : PD} (h : DiskAt g w p d) (room crash names : Int) (done : Bool) (kv : Value) :
    Calls Try.prog 19 #[.pointer (some ⟨p, 0, none⟩), .agg #[.int .i64 room, .int .i64 crash, .bool done, kv, .int .i64 names]] w fun e w' => e = .returned (.tuple #[]) ∧ DiskAt g w' p (d.begun room crash done) ∧ Step g g w w' := by
  have hb := h.blk
  unfold dCells at hb
  refine (begin_any w p _ _ _ _ _ _ _ _ _ room crash names done kv hb).mono ?_
  rintro e w' ⟨rfl, h1, h2⟩
  exact ⟨rfl, h.scal h2 h1 rfl rfl rfl rfl, step_scal h h2⟩

/-- A name's file is found, and falls. -/
theorem find_fall {gk : Gh} {w3 : World} {p : Nat} {d : PD} (hd : DiskAt gk w3 p d) (hsm : Small d) (k : Nat) (xn : List UInt8 × Nat) (hx : d.names[k]? = some xn) (n : Int) (hn : (Lit.int .i64 n).wf = true) :
    ∃ fb : Nat, (Calls Try.prog 34 #[.pointer (some ⟨p, 0, none⟩), .string (strB xn.1)] w3 fun e w' => e = .returned (.pointer (some ⟨fb, xn.2 * 3, none⟩)) ∧ w3 = w') ∧
      Calls Try.prog 35 #[.pointer (some ⟨fb, xn.2 * 3, none⟩), .int .i64 n] w3 fun e w' => e = .returned (.tuple #[]) ∧ ∃ g', DiskAt g' w' p { d with files := d.files.set xn.2 ((d.files.getD xn.2 PF.new).fallen n) } ∧ Step gk g' w3 w' := by
  have hmem := List.mem_of_getElem? hx
  have hnm := hsm.nml xn hmem
  have hss : (strB xn.1).size ≤ maxLen := by rw [strB_size]; unfold maxLen; omega
  have hfnd := srt_find hd.nr.srt hx
  rcases find_at hd (strB xn.1) hss hsm.idn with ⟨hf, _⟩ | ⟨id, fb, cap, x, f, hf, hidl, hfv, hxg, hff, hofb, hfbl, hfa, e0, e1, e2, ef, hcall⟩
  · have : (strB xn.1).data.toList = xn.1 := rfl
    rw [this, hfnd] at hf; cases hf
  · have : (strB xn.1).data.toList = xn.1 := rfl
    rw [this, hfnd] at hf
    obtain rfl : xn.2 = id := by simpa using hf
    refine ⟨fb, hcall, ?_⟩
    have hq := ffall_at hd hsm xn.2 fb cap n hn x f hfv hxg
    have e : d.files.getD xn.2 PF.new = f := by rw [List.getD_eq_getElem?_getD, hff]; rfl
    rw [e]
    exact hq

set_option maxRecDepth 100000 in
set_option maxHeartbeats 4000000 in
set_option linter.unusedSimpArgs false in
theorem fall_at {g : Gh} {w : World} {p : Nat} {d : PD} (h : DiskAt g w p d) (room crash names : Int) (done : Bool) (kv : Value) (keep : List Int) (hnn : (Lit.int .i64 names).wf = true) (hkw : ∀ v ∈ keep, (Lit.int .i64 v).wf = true) (hkl : keep.length < 1000000) (hkv : IntsAt g w kv keep)
    (hsm : ∀ k, Small (d.redone k)) (hsm2 : ∀ k, Small ((d.redone (rest names d.loose.length)).fell keep k)) (hnd : ((d.redone (rest names d.loose.length)).names.map (·.2)).Nodup) :
    Calls Try.prog 16 #[.pointer (some ⟨p, 0, none⟩), .agg #[.int .i64 room, .int .i64 crash, .bool done, kv, .int .i64 names]] w fun e w' => e = .returned (.tuple #[]) ∧
      ∃ g', DiskAt g' w' p ((((d.redone (rest names d.loose.length)).fell keep (d.redone (rest names d.loose.length)).names.length).settled).begun room crash done) ∧ Step g g' w w' := by
  have hpl := blk_lt h.blk
  have hpw : w.heap.size ≠ p := by omega
  obtain ⟨w1, hw1⟩ : ∃ w1, w1 = w.alloc (.cells #[.int .i64 room, .int .i64 crash, .bool done, kv, .int .i64 names] 30) := ⟨_, rfl⟩
  have hb1 : Below w.heap.size w w1 := by subst hw1; exact (Below.refl _ _).alloc (Nat.le_refl _) _
  have hd1 := h.below hb1
  have hs1 : w1.heap.size = w.heap.size + 1 := by subst hw1; simp
  have hx1 : w1.heap[w.heap.size]? = some (.cells #[.int .i64 room, .int .i64 crash, .bool done, kv, .int .i64 names] 30 (0, 0)) := by subst hw1; exact heap_alloc_new w _
  have HD := Lib.hid h
  have HD1 := Lib.hid hd1
  have Hw1 := Lib.hid hw1
  have HB1 := Lib.hid hb1
  have HS1 := Lib.hid hs1
  have HX1 := Lib.hid hx1
  have HPW := Lib.hid hpw
  have HSM := Lib.hid hsm
  have HSM2 := Lib.hid hsm2
  have HND := Lib.hid hnd
  have HKV := Lib.hid hkv
  have HKW := Lib.hid hkw
  clear h hd1 hw1 hb1 hs1 hx1 hpw hsm hsm2 hnd hkv hkw
  go_enter Try.func16, Try.ntmps16
  have c7 : (w.alloc (.cells #[.int .i64 room, .int .i64 crash, .bool done, kv, .int .i64 names] 30)).cell? ⟨p, 7, none⟩ = some g.sv := by rw [← Hw1.out]; exact blk_cell HD1.out.blk
  go_wp2_with (go_at_call 30; rw [← Hw1.out]; refine (mclone_any w1 g.sv d.safe HD1.out.sr).mono ?_; rintro e w2 ⟨nv, rfl, hn2, hB2, hl2⟩; have hd2 := HD1.out.below hB2; have hx2 := (hB2.block _ (by have := HS1.out; omega)).trans HX1.out; have hs2 := hB2.size; have f6 : w2.frozen? ⟨p, 6, none⟩ = false := blk_free hd2.blk; have HN2 := Lib.hid hn2; have HB2 := Lib.hid hB2; have HL2 := Lib.hid hl2; have HD2 := Lib.hid hd2; have HX2 := Lib.hid hx2; have HS2 := Lib.hid hs2; have c6 : w2.cell? ⟨p, 6, none⟩ = some g.nv := blk_cell hd2.blk; clear hd2 hx2 hs2 hB2 hl2; (obtain ⟨mb, rfl⟩ : ∃ mb, nv = .map mb := by (rcases hn2 with ⟨rfl, _⟩ | ⟨b, rfl, _⟩; exact ⟨_, rfl⟩; exact ⟨_, rfl⟩)); clear hn2)
  obtain ⟨w3, hw3⟩ : ∃ w3, w3 = (w2.setCell ⟨p, 6, none⟩ (.map mb)).drew := ⟨_, rfl⟩
  have hb3 : w3.heap[p]? = some (.cells (dCells { g with nv := .map mb } d) 60 (0, 0)) := by subst hw3; exact (blk_set (i := 6) HD2.out.blk _).trans (by simp [dCells])
  have hk3 : Kept (fun k => k < w2.heap.size ∧ k ≠ p) w2 w3 := by subst hw3; exact ((Kept.refl _ w2).setCell (fun h => h.2 rfl) _).trans (Kept.of (Below.refl w2.heap.size _).drew (fun _ h => h.1))
  have hs1 := HS1.out
  have hs2 := HS2.out
  have hs3 : w3.heap.size = w2.heap.size := by subst hw3; simp
  have hx3 := (hk3.block w.heap.size ⟨by omega, HPW.out⟩).trans HX2.out
  obtain ⟨hd3, hst3⟩ := HD1.out.set_nv (.map mb) d.safe ((Kept.of HB2.out (R := fun k => k < w1.heap.size ∧ k ≠ p ∧ mapBlock g.nv ≠ some k) fun k hk => hk.1).trans (hk3.mono fun k hk => ⟨by omega, hk.2.1⟩)) hb3 (HN2.out.kept hk3 fun k e => by have := HL2.out k e; omega) (fun k e => .inr (by have := HL2.out k e; omega))
  obtain ⟨la, lcap, hlv, hlc1, hlc2⟩ := rd_of_own HD2.out.lr
  have c8 : w3.cell? ⟨p, 8, none⟩ = some g.lv := blk_cell hb3
  have b4 : w3.cell? ⟨w.heap.size, 4, none⟩ = some (.int .i64 names) := blk_cell hx3
  rw [hlv] at c8
  have hrl : rest names d.loose.length ≤ d.loose.length := by unfold rest; have := Nat.mod_lt (max 0 names).toNat (show 0 < d.loose.length + 1 by omega); omega
  have hrc : rest names d.loose.length ≤ lcap := by omega
  have HLV := Lib.hid hlv
  have HD3 := Lib.hid hd3
  have HST3 := Lib.hid hst3
  have HS3 := Lib.hid hs3
  have HX3 := Lib.hid hx3
  have Hw3 := Lib.hid hw3
  clear hw3 hb3 hk3 hs3 hx3 hd3 hst3 c7 c6 f6 hlv
  refine wp_region_two (fun wz => wz = w3) (fun _ => True) [(0, 0), (0, 1), (0, 2), (0, 3), (0, 4), (0, 5), (0, 6), (0, 7), (0, 8), (0, 9), (0, 10), (0, 14), (2, 11), (0, 12), (0, 13)] [] (by kernel_rfl) (by kernel_rfl) (by kernel_rfl) (by kernel_rfl) (by kernel_rfl) (by rw [← Hw3.out]) trivial ?_
  simp only [planT, List.drop_succ_cons, List.drop_zero]
  rw [← Hw3.out]
  refine PlanT.take0 (v := ?vb0) (by kernel_rfl) ?yb0 ?rb0
  case yb0 => (intro wz hz; cases hz; go_simp; try with_reducible rfl)
  (try simp only [Act.put, List.setIfInBounds_toArray, List.set_cons_zero, List.set_cons_succ])
  refine PlanT.take0 (v := ?vb1) (by kernel_rfl) ?yb1 ?rb1
  case yb1 => (intro wz hz; cases hz; go_simp; try with_reducible rfl)
  (try simp only [Act.put, List.setIfInBounds_toArray, List.set_cons_zero, List.set_cons_succ])
  refine PlanT.take0 (v := ?vb2) (by kernel_rfl) ?yb2 ?rb2
  case yb2 => (intro wz hz; cases hz; go_simp; try with_reducible rfl)
  (try simp only [Act.put, List.setIfInBounds_toArray, List.set_cons_zero, List.set_cons_succ])
  refine PlanT.take0 (v := ?vb3) (by kernel_rfl) ?yb3 ?rb3
  case yb3 => (intro wz hz; cases hz; go_simp; try with_reducible rfl)
  (try simp only [Act.put, List.setIfInBounds_toArray, List.set_cons_zero, List.set_cons_succ])
  refine PlanT.take0 (v := ?vb4) (by kernel_rfl) ?yb4 ?rb4
  case yb4 => (intro wz hz; cases hz; go_simp; try with_reducible rfl)
  (try simp only [Act.put, List.setIfInBounds_toArray, List.set_cons_zero, List.set_cons_succ])
  refine PlanT.take0 (v := ?vb5) (by kernel_rfl) ?yb5 ?rb5
  case yb5 => (intro wz hz; cases hz; go_simp; try with_reducible rfl)
  (try simp only [Act.put, List.setIfInBounds_toArray, List.set_cons_zero, List.set_cons_succ])
  refine PlanT.take0 (v := ?vb6) (by kernel_rfl) ?yb6 ?rb6
  case yb6 => (intro wz hz; cases hz; go_simp; try with_reducible rfl)
  (try simp only [Act.put, List.setIfInBounds_toArray, List.set_cons_zero, List.set_cons_succ])
  refine PlanT.take0 (v := ?vb7) (by kernel_rfl) ?yb7 ?rb7
  case yb7 => (intro wz hz; cases hz; go_simp; try with_reducible rfl)
  (try simp only [Act.put, List.setIfInBounds_toArray, List.set_cons_zero, List.set_cons_succ])
  refine PlanT.take0 (v := ?vb8) (by kernel_rfl) ?yb8 ?rb8
  case yb8 => (intro wz hz; cases hz; go_simp; try with_reducible rfl)
  (try simp only [Act.put, List.setIfInBounds_toArray, List.set_cons_zero, List.set_cons_succ])
  refine PlanT.take0 (v := ?vb9) (by kernel_rfl) ?yb9 ?rb9
  case yb9 => (intro wz hz; cases hz; go_simp; try with_reducible rfl)
  (try simp only [Act.put, List.setIfInBounds_toArray, List.set_cons_zero, List.set_cons_succ])
  refine PlanT.take0 (v := ?vb10) (by kernel_rfl) ?yb10 ?rb10
  case yb10 => (intro wz hz; cases hz; go_simp; try with_reducible rfl)
  (try simp only [Act.put, List.setIfInBounds_toArray, List.set_cons_zero, List.set_cons_succ])
  refine PlanT.take0 (v := ?vb14) (by kernel_rfl) ?yb14 ?rb14
  case yb14 => (intro wz hz; cases hz; go_simp; try with_reducible rfl)
  (try simp only [Act.put, List.setIfInBounds_toArray, List.set_cons_zero, List.set_cons_succ])
  refine PlanT.exec2 (fun K hK => ⟨by kernel_rfl, ?_⟩)
  go_simp
  refine (part_any w3 names d.loose.length hnn (by have := (HSM.out 0).loose; show d.loose.length < _; have e : (d.redone 0).loose = d.loose := rfl; rw [e] at this; omega)).mono ?_
  rintro e w4 ⟨rfl, rfl⟩
  refine hK.out _ _ rfl trivial ?_
  clear hK K
  (try simp only [Act.put, List.setIfInBounds_toArray, List.set_cons_zero, List.set_cons_succ])
  refine PlanT.take0 (v := ?vb12) (by kernel_rfl) ?yb12 ?rb12
  case yb12 => (intro wz hz; cases hz; go_simp; try with_reducible rfl)
  (try simp only [Act.put, List.setIfInBounds_toArray, List.set_cons_zero, List.set_cons_succ])
  refine PlanT.take0 (v := ?vb13) (by kernel_rfl) ?yb13 ?rb13
  case yb13 => (intro wz hz; cases hz; go_simp; try with_reducible rfl)
  (try simp only [Act.put, List.setIfInBounds_toArray, List.set_cons_zero, List.set_cons_succ])
  refine PlanT.done (NoPanic.normal ?_)
  have hll : d.loose.length < 10000 := (HSM.out 0).loose
  go_wp2
  go_loopw [33] (fun i wr => ∃ (k : Nat) (gk : Gh), k ≤ rest names d.loose.length ∧ i = .int .i64 k ∧ DiskAt gk wr p (d.redone k) ∧ Step g gk w1 wr ∧ gk.lv = g.lv) (fun i _ => rest names d.loose.length - (intOf i).toNat)
  case atStart =>
    exact ⟨0, _, Nat.zero_le _, rfl, HD3.out, HST3.out, rfl⟩
  case round =>
    obtain ⟨k, gk, hk, rfl, hdk, hstk, hlk⟩ := hrel
    have HDK := Lib.hid hdk
    have HSTK := Lib.hid hstk
    have HLK := Lib.hid hlk
    clear hdk hstk hlk
    by_cases hlt : k < rest names d.loose.length
    · obtain ⟨c, hc⟩ : ∃ c, d.loose[k]? = some c := ⟨_, List.getElem?_eq_getElem (by omega)⟩
      have hlr : wr.ownsRow 0 72 4 (.slice la d.loose.length lcap) d.loose.length (chCells d.loose) := by have := HDK.out.lr; rw [HLK.out, HLV.out] at this; exact this
      obtain ⟨lb, cap', cur, hv, _, _, hg, hcc, _⟩ := own_form hlr (by omega)
      cases hv
      have q := fun j hj => flat_at (fun c : PC => [Value.int .i64 (c.kind : Int), .string (strB c.src), .string (strB c.dst), .int .i64 (c.file : Int)]) 4 (fun _ => rfl) d.loose k j hj
      rw [hc] at q
      have e0 : wr.cell? ⟨lb, k * 4, none⟩ = some (.int .i64 (c.kind : Int)) := hcc _ _ (q 0 (by omega))
      have e1 : wr.cell? ⟨lb, k * 4 + 1, none⟩ = some (.string (strB c.src)) := hcc _ _ (q 1 (by omega))
      have e2 : wr.cell? ⟨lb, k * 4 + 2, none⟩ = some (.string (strB c.dst)) := hcc _ _ (q 2 (by omega))
      have e3 : wr.cell? ⟨lb, k * 4 + 3, none⟩ = some (.int .i64 (c.file : Int)) := hcc _ _ (q 3 (by omega))
      have HC := Lib.hid (redone_succ hc)
      have HR := Lib.hid (fun (w4 : World) (hb : Below wr.heap.size wr w4) => rename_at (HDK.out.below hb) c ((HSM.out k).ch c (List.mem_of_getElem? hc)) (HSM.out k).nm)
      clear q hcc hg hlr hc
      go_wp2_with (go_at_call 32; (with_reducible refine (HR.out _ (by first | exact (Below.refl _ _).alloc (Nat.le_refl _) _ | exact ((Below.refl _ _).alloc (Nat.le_refl _) _).drew)).mono ?_); rintro e w5 ⟨rfl, g5, hd5, hst5, _, _, hl5⟩; have hst5 := (Step.below (g := gk) (by first | exact (Below.refl _ _).alloc (Nat.le_refl _) _ | exact ((Below.refl _ _).alloc (Nat.le_refl _) _).drew)).trans hst5; have HD5 := Lib.hid hd5; have HST5 := Lib.hid hst5; have HL5 := Lib.hid hl5; clear hd5 hst5 hl5)
      go_roundw
      case rel => exact ⟨k + 1, g5, by omega, by go_num, by rw [HC.out]; exact HD5.out, HSTK.out.trans HST5.out, HL5.out.trans HLK.out⟩
      case measure => simp [intOf]; omega
    · have hkn : k = rest names d.loose.length := by omega
      subst hkn
      obtain ⟨wa, hwa⟩ : ∃ wa, wa = wr := ⟨_, rfl⟩
      subst hwa
      obtain ⟨d1, hd1⟩ : ∃ d1, d1 = d.redone (rest names d.loose.length) := ⟨_, rfl⟩
      have hda : DiskAt gk wa p d1 := by rw [hd1]; exact HDK.out
      have hsm0 : Small d1 := by rw [hd1]; exact HSM.out _
      have hsm2 : ∀ k, Small (d1.fell keep k) := by rw [hd1]; exact HSM2.out
      have hnd1 : (d1.names.map (·.2)).Nodup := by rw [hd1]; exact HND.out
      have HE1 := Lib.hid hd1
      clear hd1
      have c6 : wa.cell? ⟨p, 6, none⟩ = some gk.nv := blk_cell hda.blk
      have HR := Lib.hid (rising_any wa p gk.nv d1.names c6 hda.nr (by have := hsm0.names; omega))
      have hbx := out_step (k := w.heap.size) (by have := HS1.out; omega) (fun e => e (out_of HD.out (Nat.le_refl _))) HSTK.out
      have hkv := (HKV.out.step (Step.below HB1.out)).step HSTK.out
      have HBX := Lib.hid hbx
      have HKV1 := Lib.hid hkv
      have HDA := Lib.hid hda
      have HSM0 := Lib.hid hsm0
      have HSM3 := Lib.hid hsm2
      have HND1 := Lib.hid hnd1
      clear hda hsm0 hsm2 hnd1 c6 hbx hkv HSM HSM2 HND HDK
      have hdl := HSM0.out.names
      go_wp2_with (go_at_call 33; (with_reducible refine HR.out.mono ?_); rintro e w6 ⟨nv, rfl, hnr, hB6⟩; obtain ⟨na, ncap, hnv, _, _⟩ := rd_of_own hnr; subst hnv; have HNR := Lib.hid hnr; have HB6 := Lib.hid hB6; clear hnr hB6)
      go_loopw [44] (fun i wq => ∃ (k : Nat) (gq : Gh), k ≤ d1.names.length ∧ i = .int .i64 k ∧ DiskAt gq wq p (d1.fell keep k) ∧ Step gk gq w6 wq) (fun i _ => d1.names.length - (intOf i).toNat)
      case atStart => exact ⟨0, gk, Nat.zero_le _, rfl, HDA.out.below HB6.out, Step.refl _ _⟩
      case round =>
        obtain ⟨k, gq, hk, rfl, hdk, hstk⟩ := hrel
        have hbq := out_step HBX.out.2.2 HBX.out.2.1 ((Step.below HB6.out).trans hstk)
        have hxq := (hbq.1.trans HBX.out.1).trans HX1.out
        have hkq := (HKV1.out.step (Step.below HB6.out)).step hstk
        have hs6 := HB6.out.size
        have HDQ := Lib.hid hdk
        have HSTQ := Lib.hid hstk
        have b0 : wr.cell? ⟨w.heap.size, 0, none⟩ = some (.int .i64 room) := blk_cell hxq
        have b1 : wr.cell? ⟨w.heap.size, 1, none⟩ = some (.int .i64 crash) := blk_cell hxq
        have b2 : wr.cell? ⟨w.heap.size, 2, none⟩ = some (.bool done) := blk_cell hxq
        have b3 : wr.cell? ⟨w.heap.size, 3, none⟩ = some kv := blk_cell hxq
        have b4 : wr.cell? ⟨w.heap.size, 4, none⟩ = some (.int .i64 names) := blk_cell hxq
        have HXQ := Lib.hid hxq
        have HBQ := Lib.hid hbq
        clear hbq hxq hdk hstk
        by_cases hlt2 : k < d1.names.length
        · obtain ⟨xn, hxn⟩ : ∃ xn, d1.names[k]? = some xn := ⟨_, List.getElem?_eq_getElem hlt2⟩
          obtain ⟨nb, ncap2, ncur, hnv2, _, _, hnb, hncell, _⟩ := own_form HNR.out (by omega)
          cases hnv2
          have hnbl := blk_lt hnb
          have hnbF : ¬ gk.F nb := fun e => e (out_of HDA.out (World.ownsRow.lt HNR.out nb rfl).1)
          have ecell : wr.cell? ⟨nb, k, none⟩ = some (.string (strB xn.1)) := by
            refine (HSTQ.out.touch.cell (p := ⟨nb, k, none⟩) ⟨hnbl, hnbF⟩).trans (hncell k _ ?_)
            unfold nmCells; rw [List.getElem?_map, hxn]; rfl
          have hfs := fell_succ (keep := keep) hxn
          have HXN := Lib.hid hxn
          clear hnb hncell hxn hnbF
          rcases hkq with ⟨ka, kac, rfl, rfl⟩ | ⟨kb, ko, kcap, rfl, hk0, hkb, hkf, hkc⟩
          · obtain ⟨fb, hfi, hfa⟩ := find_fall HDQ.out (HSM3.out k) k xn HXN.out 0 (by decide)
            have HFI := Lib.hid hfi
            have HFA := Lib.hid hfa
            have HFS := Lib.hid hfs
            clear hfi hfa hfs
            have hq := eqf_nil
            go_wp2_with (first | (go_at_call 34; (with_reducible refine HFI.out.mono ?_); rintro e w7 ⟨rfl, rfl⟩) | (go_at_call 35; (with_reducible refine HFA.out.mono ?_); rintro e w7 ⟨rfl, g7, hd7, hst7⟩; have HD7 := Lib.hid hd7; have HST7 := Lib.hid hst7; clear hd7 hst7))
            go_roundw
            case rel => exact ⟨k + 1, g7, by omega, by go_num, by rw [HFS.out]; exact HD7.out, HSTQ.out.trans HST7.out⟩
            case measure => simp [intOf]; omega
          · have hk0i : (0 : Int) < (keep.length : Int) := by omega
            have hkne : ¬ keep = [] := by intro e; rw [e] at hk0; simp at hk0
            obtain ⟨m, hm⟩ : ∃ m, m = k % keep.length := ⟨_, rfl⟩
            have htm : (k : Int).tmod (keep.length : Int) = (m : Int) := by rw [hm]; rfl
            have hmod : m < keep.length := by rw [hm]; exact Nat.mod_lt _ hk0
            obtain ⟨n, hn⟩ : ∃ n, keep[m]? = some n := ⟨_, List.getElem?_eq_getElem hmod⟩
            have hkn : nthK keep k = n := by
              unfold nthK
              rw [if_neg hkne, ← hm, List.getD_eq_getElem?_getD, hn]
              rfl
            rw [hkn] at hfs
            have hwn := HKW.out n (List.mem_of_getElem? hn)
            clear hm
            obtain ⟨wd, hwd⟩ : ∃ wd, wd = wr.drew := ⟨_, rfl⟩
            have ed : wd.cell? ⟨kb, ko + m, none⟩ = some (.int .i64 n) := by subst hwd; exact hkc _ _ hn
            have b3d : wd.cell? ⟨w.heap.size, 3, none⟩ = some (.slice (some ⟨kb, ko, none⟩) keep.length kcap) := by subst hwd; exact b3
            obtain ⟨fb, hfi, hfa⟩ := find_fall (w3 := wd) (by subst hwd; exact HDQ.out.drew) (HSM3.out k) k xn HXN.out n hwn
            have HFI := Lib.hid hfi
            have HFA := Lib.hid hfa
            have HFS := Lib.hid hfs
            have HWD := Lib.hid hwd
            have hq := eqf_nil
            clear hfi hfa hfs hkc hn hwd hkf
            go_wp2
            refine wp_region_two (fun wz => wz = wd) (fun _ => True) [(0, 0), (0, 1), (0, 2), (0, 3), (0, 4), (0, 5), (0, 6), (0, 7), (0, 8), (0, 9)] [] (by kernel_rfl) (by kernel_rfl) (by kernel_rfl) (by kernel_rfl) (by kernel_rfl) (by rw [← HWD.out]) trivial ?_
            simp only [planT, List.drop_succ_cons, List.drop_zero]
            rw [← HWD.out]
            refine PlanT.take0 (v := ?vc0) (by kernel_rfl) ?yc0 ?rc0
            case yc0 => (intro wz hz; cases hz; go_simp; try with_reducible rfl)
            (try simp only [Act.put, List.setIfInBounds_toArray, List.set_cons_zero, List.set_cons_succ])
            refine PlanT.take0 (v := ?vc1) (by kernel_rfl) ?yc1 ?rc1
            case yc1 => (intro wz hz; cases hz; go_simp; try with_reducible rfl)
            (try simp only [Act.put, List.setIfInBounds_toArray, List.set_cons_zero, List.set_cons_succ])
            refine PlanT.take0 (v := ?vc2) (by kernel_rfl) ?yc2 ?rc2
            case yc2 => (intro wz hz; cases hz; go_simp; try with_reducible rfl)
            (try simp only [Act.put, List.setIfInBounds_toArray, List.set_cons_zero, List.set_cons_succ])
            refine PlanT.take0 (v := ?vc3) (by kernel_rfl) ?yc3 ?rc3
            case yc3 => (intro wz hz; cases hz; go_simp; try with_reducible rfl)
            (try simp only [Act.put, List.setIfInBounds_toArray, List.set_cons_zero, List.set_cons_succ])
            refine PlanT.take0 (v := ?vc4) (by kernel_rfl) ?yc4 ?rc4
            case yc4 => (intro wz hz; cases hz; go_simp; try with_reducible rfl)
            (try simp only [Act.put, List.setIfInBounds_toArray, List.set_cons_zero, List.set_cons_succ])
            refine PlanT.take0 (v := ?vc5) (by kernel_rfl) ?yc5 ?rc5
            case yc5 => (intro wz hz; cases hz; go_simp; try with_reducible rfl)
            (try simp only [Act.put, List.setIfInBounds_toArray, List.set_cons_zero, List.set_cons_succ])
            refine PlanT.take0 (v := .int .i64 (m : Int)) (by kernel_rfl) ?yc6 ?rc6
            case yc6 => (intro wz hz; cases hz; go_simp; try simp only [if_neg hkne, htm])
            (try simp only [Act.put, List.setIfInBounds_toArray, List.set_cons_zero, List.set_cons_succ])
            refine PlanT.take0 (v := ?vc7) (by kernel_rfl) ?yc7 ?rc7
            case yc7 => (intro wz hz; cases hz; go_simp; try with_reducible rfl)
            (try simp only [Act.put, List.setIfInBounds_toArray, List.set_cons_zero, List.set_cons_succ])
            refine PlanT.take0 (v := ?vc8) (by kernel_rfl) ?yc8 ?rc8
            case yc8 => (intro wz hz; cases hz; go_simp; try with_reducible rfl)
            (try simp only [Act.put, List.setIfInBounds_toArray, List.set_cons_zero, List.set_cons_succ])
            refine PlanT.take0 (v := ?vc9) (by kernel_rfl) ?yc9 ?rc9
            case yc9 => (intro wz hz; cases hz; go_simp; try with_reducible rfl)
            (try simp only [Act.put, List.setIfInBounds_toArray, List.set_cons_zero, List.set_cons_succ])
            refine PlanT.done (NoPanic.normal ?_)
            go_wp2_with (first | (go_at_call 34; (with_reducible refine HFI.out.mono ?_); rintro e w7 ⟨rfl, rfl⟩) | (go_at_call 35; (with_reducible refine HFA.out.mono ?_); rintro e w7 ⟨rfl, g7, hd7, hst7⟩; have HD7 := Lib.hid hd7; have HST7 := Lib.hid hst7; clear hd7 hst7))
            go_roundw
            case rel => exact ⟨k + 1, g7, by omega, by go_num, by rw [HFS.out]; exact HD7.out, (HSTQ.out.trans (Step.below (by rw [HWD.out]; exact (Below.refl _ _).drew))).trans HST7.out⟩
            case measure => simp [intOf]; omega
        · have hkn : k = d1.names.length := by omega
          subst hkn
          have hset := settle_at HDQ.out (HSM3.out _) (show ((d1.fell keep d1.names.length).names.map (·.2)).Nodup from HND1.out)
          have HSET := Lib.hid hset
          obtain ⟨kva, kvn, kvc, rfl⟩ : ∃ a n c, kv = .slice a n c := by
            rcases hkq with ⟨_, _, e, _⟩ | ⟨_, _, _, e, _⟩
            · exact ⟨_, _, _, e⟩
            · exact ⟨_, _, _, e⟩
          clear hset hkq b0 b1 b2 b3 b4
          go_wp2_with (first | (go_at_call 36; (with_reducible refine HSET.out.mono ?_); rintro e w7 ⟨rfl, g7, hd7, hst7⟩; have hx7 := (out_step HBQ.out.2.2 HBQ.out.2.1 hst7).1.trans HXQ.out; have b0 := blk_cell (i := 0) hx7; have b1 := blk_cell (i := 1) hx7; have b2 := blk_cell (i := 2) hx7; have b3 := blk_cell (i := 3) hx7; have b4 := blk_cell (i := 4) hx7; simp only [List.getElem?_toArray, List.getElem?_cons_zero, List.getElem?_cons_succ] at b0 b1 b2 b3 b4; have HD7 := Lib.hid hd7; have HST7 := Lib.hid hst7; clear hd7 hst7 hx7) | (go_at_call 19; (with_reducible refine (begin_at (g := g7) (d := (d1.fell keep d1.names.length).settled) (by first | exact HD7.out | exact HD7.out.drew) _ _ _ _ _).mono ?_); rintro e w8 ⟨rfl, hd8, hst8⟩))
          go_end0
          refine ⟨rfl, g7, by rw [← HE1.out]; exact hd8, ?_⟩
          exact ((Step.below HB1.out).trans (HSTK.out.trans (Step.below HB6.out))).trans ((HSTQ.out.trans HST7.out).trans hst8)
end Go.Proofs.Ytmlijnekidihbaa
