/-
  Chapter 12, the statements' own: entries in order, made by numbers.
-/
import Derived.Test.YtnmmeaoapfampaaMemRAdd
import Derived.Test.YtnmmeaoapfampaaMemBuild
import Derived.Test.YtnmmeaoapfampaaRepDigits
namespace Go.Proofs.Ytnmmeaoapfampaa
open Go.RowKit

/-- The entry of a number. -/
def keyN (sp n : Nat) : ByteArray := ⟨#[107, 101, 121]⟩ ++ strB (digL (n % (3 + sp % 40)))
def entN (sp n i : Nat) : Ent := if n % 7 = 0 then ⟨keyN sp n, 1 + (i : Int), 2, ⟨#[]⟩⟩ else ⟨keyN sp n, 1 + (i : Int), 1, strB (digL n)⟩
def entsN (ns : List UInt8) (sp : Nat) : List Ent := (List.range ns.length).map fun i => entN sp (ns.getD i 0).toNat i
def mkB (ns : List UInt8) (sp : Nat) : List Ent := build (entsN ns sp)

theorem keyN_len (sp n : Nat) : (keyN sp n).data.toList.length ≤ 64 := by
  unfold keyN
  have h := digL_len (n % (3 + sp % 40))
  have h2 : n % (3 + sp % 40) < 3 + sp % 40 := Nat.mod_lt _ (by omega)
  have : ((⟨#[107, 101, 121]⟩ : ByteArray) ++ strB (digL (n % (3 + sp % 40)))).data.toList.length = 3 + (digL (n % (3 + sp % 40))).length := by simp; omega
  rw [this]
  omega
theorem entN_may (sp n i : Nat) (hn : n ≤ 255) (hi : i ≤ 1000) : (entN sp n i).may = true := by
  have hk := keyN_len sp n
  have hd := digL_len n
  unfold entN
  split
  · unfold Ent.may mayE
    rw [mayB_mk hk (by simp only; omega) (by simp only; omega) (.inr rfl)]
    rfl
  · unfold Ent.may mayE
    rw [mayB_mk hk (by simp only; omega) (by simp only; omega) (.inl rfl)]
    have : (strB (digL n)).data.toList.length ≤ 512 := by
      show (digL n).length ≤ 512
      omega
    simpa using this
theorem entsN_len (ns : List UInt8) (sp : Nat) : (entsN ns sp).length = ns.length := by unfold entsN; simp
theorem entsN_at (ns : List UInt8) (sp : Nat) {k : Nat} (hk : k < ns.length) : (entsN ns sp).getD k Ent.none_ = entN sp (ns.getD k 0).toNat k := by
  unfold entsN
  simp [List.getD, hk]
theorem entsN_may {ns : List UInt8} {sp : Nat} (hl : ns.length ≤ 1000) : ∀ e ∈ entsN ns sp, e.may = true := by
  intro e he
  unfold entsN at he
  obtain ⟨i, hi, rfl⟩ := List.mem_map.1 he
  have := List.mem_range.1 hi
  exact entN_may _ _ _ (by have := (ns.getD i 0).toNat_lt; omega) (by omega)

theorem addL_ge (e : Ent) (l : List Ent) : l.length ≤ (addL e l).length := by
  unfold addL
  cases addB e l
  · exact Nat.le_refl _
  · show l.length ≤ (insE e l).length
    rw [ins_len]
    omega
theorem build_ne {e : Ent} {r : List Ent} (he : e.may = true) : build (e :: r) ≠ [] := by
  have h1 : addL e [] = [e] := by
    unfold addL addB
    rw [he]
    rfl
  have key : ∀ (ys acc : List Ent), acc.length ≤ (ys.foldl (fun acc e => addL e acc) acc).length := by
    intro ys
    induction ys with
    | nil => intro acc; exact Nat.le_refl _
    | cons y r ih => intro acc; exact Nat.le_trans (addL_ge y acc) (ih _)
  have := key r (addL e [])
  rw [h1] at this
  intro h
  unfold build at h
  rw [List.foldl_cons, h1] at h
  rw [h] at this
  simp at this
theorem build_may {xs : List Ent} : ∀ e ∈ build xs, e.may = true := by
  have key : ∀ (ys acc : List Ent), (∀ e ∈ acc, e.may = true) → ∀ e ∈ ys.foldl (fun acc e => addL e acc) acc, e.may = true := by
    intro ys
    induction ys with
    | nil => intro acc h; exact h
    | cons y r ih => intro acc h; exact ih _ (addL_may h)
  exact key xs [] (fun e h => by cases h)

theorem mkB_up (ns : List UInt8) (sp : Nat) : Up (mkB ns sp) := build_up _
theorem mkB_may (ns : List UInt8) (sp : Nat) : ∀ e ∈ mkB ns sp, e.may = true := build_may
theorem mkB_len (ns : List UInt8) (sp : Nat) : (mkB ns sp).length ≤ ns.length := by
  have := build_len (entsN ns sp)
  rw [entsN_len] at this
  exact this
theorem mkB_ne {ns : List UInt8} (sp : Nat) (h : ns ≠ []) (hl : ns.length ≤ 1000) : mkB ns sp ≠ [] := by
  have hl2 := entsN_len ns sp
  have hm := entsN_may (ns := ns) (sp := sp) hl
  have hpos := List.length_pos_iff.2 h
  unfold mkB
  cases hx : entsN ns sp with
  | nil => rw [hx] at hl2; simp at hl2; omega
  | cons e r => exact build_ne (hm e (by rw [hx]; simp))

/-- The document's memory 'q' keeps the entries 'L', in memory of the call's own. -/
structure RM (W w : World) (q : Nat) (L : List Ent) : Prop where
  bel : Below W.heap.size W w
  obj : ∃ G, Ro G w q L ∧ ∀ k, G k → W.heap.size ≤ k
theorem RM.below {W w w' : World} {q : Nat} {L : List Ent} (h : RM W w q L) (hb : Below w.heap.size w w') : RM W w' q L := by
  obtain ⟨G, h1, h2⟩ := h.obj
  exact ⟨h.bel.trans (hb.mono h.bel.size), G, h1.below hb, h2⟩
theorem RM.start (W : World) : RM W (W.alloc (.cells #[.slice none 0 0] 57)) W.heap.size [] := by
  refine ⟨(Below.refl _ _).alloc (Nat.le_refl _) _, fun k => k = W.heap.size, ⟨.slice none 0 0, heap_alloc_new W _, World.ownsRow_nil _ _ _ _, (fun h => by cases h), fun k => ⟨fun h => .inl h, fun h => h.elim id fun h => by cases h⟩, fun e he => by cases he⟩, fun k hk => by omega⟩
theorem rm_add {W w : World} {q : Nat} {L : List Ent} (h : RM W w q L) (e : Ent) (he : e.fits) (hlen : L.length < 100000) :
    Calls Try.prog 29 #[.pointer (some ⟨q, 0, none⟩), .agg #[.string e.u, .int .i64 e.s, .int .i64 e.k, .string e.v]] w fun r w' => r = .returned (.bool (addB e L)) ∧ RM W w' q (addL e L) := by
  obtain ⟨G, h2, h5⟩ := h.obj
  refine (radd_any h2 e he hlen).mono ?_
  rintro r w' ⟨rfl, G', hm, ht, hg⟩
  have hs := h.bel.size
  refine ⟨rfl, h.bel.trans (ht.below h5 hs), G', hm, fun k hG' => ?_⟩
  rcases hg k hG' with h | h
  · exact h5 k h
  · omega
theorem RM.own {W w : World} {q : Nat} {L : List Ent} (h : RM W w q L) : ∃ v, w.heap[q]? = some (.cells #[v] 57 (0, 0)) ∧ OwnE w W.heap.size v L := by
  obtain ⟨G, ⟨v, h1, h2, _, h4, _⟩, h5⟩ := h.obj
  exact ⟨v, h1, own_base h2 fun k hk => h5 k ((h4 k).2 (.inr hk))⟩

/-- What Make tells. -/
def RetMk (w : World) (L : List Ent) (e : Ending) (w' : World) : Prop := ∃ x, e = .returned x ∧ OwnE w' w.heap.size x L ∧ Below w.heap.size w w'

set_option maxRecDepth 100000 in
set_option maxHeartbeats 1000000 in
theorem make12_any (v : Value) (ns : List UInt8) (sp : Nat) (hsp : sp ≤ 255) (w : World) (hv : RdB w v ns) (hl : ns.length ≤ 1000) : Calls Try.prog 19 #[v, .int .u8 (sp : Int)] w (RetMk w (mkB ns sp)) := by
  have HV := Lib.hid hv
  obtain ⟨va, vc, rfl, hc1, hc2⟩ := hv.form
  unfold maxLen at hc2
  clear hv
  obtain ⟨s4, hs4⟩ : ∃ s4, sp % 40 = s4 := ⟨_, rfl⟩
  have a1 : (sp : Int).tmod 40 = (s4 : Int) := by rw [Int.tmod_eq_emod_of_nonneg (by omega)]; omega
  have a2 : (sp : Int) % 40 = (s4 : Int) := by omega
  have a3 : s4 < 40 := by omega
  have HS4 := Lib.hid hs4
  have HL := Lib.hid (entsN_len ns sp)
  have HAT := Lib.hid (fun k (hk : k < ns.length) => entsN_at ns sp hk)
  have HBT := Lib.hid (fun k (hk : k < (entsN ns sp).length) => build_take hk)
  have HBL := Lib.hid (fun k => build_len ((entsN ns sp).take k))
  clear hs4
  go_enter Try.func19, Try.ntmps19
  go_wp2
  go_loopw [6] (fun i wr => ∃ k : Nat, k ≤ ns.length ∧ i = .int .i64 (k : Int) ∧ Hid (RM w wr w.heap.size (build ((entsN ns sp).take k)))) (fun i _ => ns.length - (intOf i).toNat)
  case atStart => exact ⟨0, Nat.zero_le _, rfl, Lib.hid (RM.start w)⟩
  case round =>
    obtain ⟨k, hk, rfl, HR⟩ := hrel
    by_cases hlt : k < ns.length
    · obtain ⟨b, off, cap', hvv, _, _, hbw, hcell⟩ := HV.out.cells (by intro h; subst h; simp at hlt)
      cases hvv
      have z0 := (HR.out.bel.cell (p := ⟨b, off + k, none⟩) hbw).trans (hcell k hlt)
      have HN : Hid (build ((entsN ns sp).take (k + 1)) = addL (entN sp (ns.getD k 0).toNat k) (build ((entsN ns sp).take k))) := Lib.hid (by rw [HBT.out k (by rw [HL.out]; exact hlt), HAT.out k hlt])
      have HF := Lib.hid (Ent.may_fits (entN_may sp (ns.getD k 0).toNat k (by have := (ns.getD k 0).toNat_lt; omega) (by omega)))
      have hnb := byte_le (ns.getD k 0)
      unfold bv at z0
      have HBK := Lib.hid (HBL.out k)
      generalize (ns.getD k 0).toNat = n at *
      generalize build ((entsN ns sp).take k) = Lk at *
      obtain ⟨m, hm⟩ : ∃ m, n % (3 + s4) = m := ⟨_, rfl⟩
      have b1 : (n : Int).tmod (3 + (s4 : Int)) = (m : Int) := by rw [Int.tmod_eq_emod_of_nonneg (by omega), ← hm]; simp
      have b2 : (n : Int) % (3 + (s4 : Int)) = (m : Int) := by rw [← hm]; simp
      have b3 : ¬ (3 : Int) + (s4 : Int) = 0 := by omega
      have HD1 := Lib.hid (rdigits_any m (by have := Nat.mod_lt n (show 0 < 3 + s4 by omega); omega))
      have HD2 := Lib.hid (rdigits_any n (by omega))
      obtain ⟨r7, hr7⟩ : ∃ r7, n % 7 = r7 := ⟨_, rfl⟩
      have d1 : (n : Int).tmod 7 = (r7 : Int) := by rw [Int.tmod_eq_emod_of_nonneg (by omega)]; omega
      have d2 : (n : Int) % 7 = (r7 : Int) := by omega
      have hdl := digL_len m
      have hml := Nat.mod_lt n (show 0 < 3 + s4 by omega)
      have hlim : ¬ 9223372036854775807 < 3 + (digL m).length := by omega
      clear hcell hbw hdl hml
      by_cases hz : r7 = 0
      · have hzb : ((r7 : Int) == 0) = true := by rw [hz]; rfl
        have HE := Lib.hid (show entN sp n k = ⟨⟨#[107, 101, 121]⟩ ++ strB (digL m), 1 + (k : Int), 2, ⟨#[]⟩⟩ by unfold entN keyN; rw [if_pos (hr7.trans hz), HS4.out, hm])
        rw [HE.out] at HN HF
        have HA : Hid (∀ wz, Below wr.heap.size wr wz → Calls Try.prog 29 #[.pointer (some ⟨w.heap.size, 0, none⟩), .agg #[.string (⟨#[107, 101, 121]⟩ ++ strB (digL m)), .int .i64 (1 + (k : Int)), .int .i64 2, .string ⟨#[]⟩]] wz fun r w' => r = .returned (.bool (addB ⟨⟨#[107, 101, 121]⟩ ++ strB (digL m), 1 + (k : Int), 2, ⟨#[]⟩⟩ Lk)) ∧ RM w w' w.heap.size (addL ⟨⟨#[107, 101, 121]⟩ ++ strB (digL m), 1 + (k : Int), 2, ⟨#[]⟩⟩ Lk)) := Lib.hid fun wz hz => rm_add (HR.out.below hz) ⟨⟨#[107, 101, 121]⟩ ++ strB (digL m), 1 + (k : Int), 2, ⟨#[]⟩⟩ HF.out (by have := HBK.out; rw [List.length_take] at this; omega)
        clear hm hr7 hz
        go_wp2_with (first | (go_at_call 20; first | ((with_reducible refine (HD1.out _).mono ?_); rintro e w1 ⟨rfl, hb1⟩) | ((with_reducible refine (HD2.out _).mono ?_); rintro e w2 ⟨rfl, hb2⟩)) | (go_at_call 29; (refine (HA.out _ (belowT (belowT hb1 hb2) ((Below.refl _ _).alloc (Nat.le_refl _) _))).mono ?_); rintro e w3 ⟨rfl, hr3⟩))
        exact ⟨⟨k + 1, hlt, by go_num, Lib.hid (by rw [HN.out]; exact hr3)⟩, by simp [intOf]; omega⟩
      · have hzb : ((r7 : Int) == 0) = false := by have : (r7 : Int) ≠ 0 := (by omega); simpa using this
        have HE := Lib.hid (show entN sp n k = ⟨⟨#[107, 101, 121]⟩ ++ strB (digL m), 1 + (k : Int), 1, (strB (digL n))⟩ by unfold entN keyN; rw [if_neg (fun h => hz (hr7.symm.trans h)), HS4.out, hm])
        rw [HE.out] at HN HF
        have HA : Hid (∀ wz, Below wr.heap.size wr wz → Calls Try.prog 29 #[.pointer (some ⟨w.heap.size, 0, none⟩), .agg #[.string (⟨#[107, 101, 121]⟩ ++ strB (digL m)), .int .i64 (1 + (k : Int)), .int .i64 1, .string (strB (digL n))]] wz fun r w' => r = .returned (.bool (addB ⟨⟨#[107, 101, 121]⟩ ++ strB (digL m), 1 + (k : Int), 1, (strB (digL n))⟩ Lk)) ∧ RM w w' w.heap.size (addL ⟨⟨#[107, 101, 121]⟩ ++ strB (digL m), 1 + (k : Int), 1, (strB (digL n))⟩ Lk)) := Lib.hid fun wz hz => rm_add (HR.out.below hz) ⟨⟨#[107, 101, 121]⟩ ++ strB (digL m), 1 + (k : Int), 1, (strB (digL n))⟩ HF.out (by have := HBK.out; rw [List.length_take] at this; omega)
        clear hm hr7 hz
        go_wp2_with (first | (go_at_call 20; first | ((with_reducible refine (HD1.out _).mono ?_); rintro e w1 ⟨rfl, hb1⟩) | ((with_reducible refine (HD2.out _).mono ?_); rintro e w2 ⟨rfl, hb2⟩)) | (go_at_call 29; (refine (HA.out _ (belowT (belowT hb1 hb2) ((Below.refl _ _).alloc (Nat.le_refl _) _))).mono ?_); rintro e w3 ⟨rfl, hr3⟩))
        exact ⟨⟨k + 1, hlt, by go_num, Lib.hid (by rw [HN.out]; exact hr3)⟩, by simp [intOf]; omega⟩
    · have hke : k = ns.length := by omega
      have HRE := Lib.hid (show RM w wr w.heap.size (mkB ns sp) by
        have h := HR.out
        rw [hke, ← HL.out, List.take_length] at h
        exact h)
      obtain ⟨x, hx1, hx2⟩ := HRE.out.own
      have HX := Lib.hid hx2
      have x0 := blk_cell (i := 0) hx1
      replace x0 : wr.cell? ⟨w.heap.size, 0, none⟩ = some x := x0
      clear hke hx1 hx2
      go_wp2
      go_ret
      exact ⟨_, rfl, HX.out, HRE.out.bel⟩
end Go.Proofs.Ytnmmeaoapfampaa
