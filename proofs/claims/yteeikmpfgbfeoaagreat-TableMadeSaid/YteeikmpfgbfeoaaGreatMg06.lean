import Derived.Test.YteeikmpfgbfeoaaGreatMg05
import Derived.Test.YteeikmpfgbfeoaaGreatMemBuild
import Derived.Test.YteeikmpfgbfeoaaGreatOwnEnt
import Derived.Test.YteeikmpfgbfeoaaGreatRegion
import Derived.Deep.Cut
import Derived.Test.YteeikmpfgbfeoaaGreatMg03
import Derived.Test.YteeikmpfgbfeoaaGreatMg02
import Derived.Deep.QuietTactic
import Derived.BigQuiet

/-
  Chapter 12, the statements' own: entries in order, made by numbers.
-/
namespace Go.Proofs.YteeikmpfgbfeoaaGreat
open Go.RowKit

/-- The entry of a number. -/
def keyN (sp n : Nat) : ByteArray := ⟨#[107, 101, 121]⟩ ++ strB (digL (n % (3 + sp % 40)))
def entN (sp n i : Nat) : Ent := if n % 7 = 0 then ⟨keyN sp n, 1 + (i : Int), 2, ⟨#[]⟩⟩ else ⟨keyN sp n, 1 + (i : Int), 1, strB (digL n)⟩
def entsN (ns : List UInt8) (sp : Nat) : List Ent := (List.range ns.length).map fun i => entN sp (ns.getD i 0).toNat i
def mkB (ns : List UInt8) (sp : Nat) : List Ent := build (entsN ns sp)

theorem keyN_len (sp n : Nat) : (keyN sp n).data.toList.length ≤ 64 := by
  unfold keyN
  have h := digL_len (n % (3 + sp % 40))
  have h2 : n % (3 + sp % 40) < 3 + sp % 40 := Nat.mod_lt _ (by omega)
  have : ((⟨#[107, 101, 121]⟩ : ByteArray) ++ strB (digL (n % (3 + sp % 40)))).data.toList.length = 3 + (digL (n % (3 + sp % 40))).length := by simp; omega
  rw [this]
  omega
theorem entN_may (sp n i : Nat) (hn : n ≤ 255) (hi : i ≤ 1000) : (entN sp n i).may = true := by
  have hk := keyN_len sp n
  have hd := digL_len n
  unfold entN
  split
  · unfold Ent.may mayE
    rw [mayB_mk hk (by simp only; omega) (by simp only; omega) (.inr rfl)]
    rfl
  · unfold Ent.may mayE
    rw [mayB_mk hk (by simp only; omega) (by simp only; omega) (.inl rfl)]
    have : (strB (digL n)).data.toList.length ≤ 512 := by
      show (digL n).length ≤ 512
      omega
    simpa using this
theorem entsN_len (ns : List UInt8) (sp : Nat) : (entsN ns sp).length = ns.length := by unfold entsN; simp
theorem entsN_at (ns : List UInt8) (sp : Nat) {k : Nat} (hk : k < ns.length) : (entsN ns sp).getD k Ent.none_ = entN sp (ns.getD k 0).toNat k := by
  unfold entsN
  simp [List.getD, hk]
theorem entsN_may {ns : List UInt8} {sp : Nat} (hl : ns.length ≤ 1000) : ∀ e ∈ entsN ns sp, e.may = true := by
  intro e he
  unfold entsN at he
  obtain ⟨i, hi, rfl⟩ := List.mem_map.1 he
  have := List.mem_range.1 hi
  exact entN_may _ _ _ (by have := (ns.getD i 0).toNat_lt; omega) (by omega)

theorem addL_ge (e : Ent) (l : List Ent) : l.length ≤ (addL e l).length := by
  unfold addL
  cases addB e l
  · exact Nat.le_refl _
  · show l.length ≤ (insE e l).length
    rw [ins_len]
    omega
theorem build_ne {e : Ent} {r : List Ent} (he : e.may = true) : build (e :: r) ≠ [] := by
  have h1 : addL e [] = [e] := by
    unfold addL addB
    rw [he]
    rfl
  have key : ∀ (ys acc : List Ent), acc.length ≤ (ys.foldl (fun acc e => addL e acc) acc).length := by
    intro ys
    induction ys with
    | nil => intro acc; exact Nat.le_refl _
    | cons y r ih => intro acc; exact Nat.le_trans (addL_ge y acc) (ih _)
  have := key r (addL e [])
  rw [h1] at this
  intro h
  unfold build at h
  rw [List.foldl_cons, h1] at h
  rw [h] at this
  simp at this
theorem build_may {xs : List Ent} : ∀ e ∈ build xs, e.may = true := by
  have key : ∀ (ys acc : List Ent), (∀ e ∈ acc, e.may = true) → ∀ e ∈ ys.foldl (fun acc e => addL e acc) acc, e.may = true := by
    intro ys
    induction ys with
    | nil => intro acc h; exact h
    | cons y r ih => intro acc h; exact ih _ (addL_may h)
  exact key xs [] (fun e h => by cases h)

theorem mkB_up (ns : List UInt8) (sp : Nat) : Up (mkB ns sp) := build_up _
theorem mkB_may (ns : List UInt8) (sp : Nat) : ∀ e ∈ mkB ns sp, e.may = true := build_may
theorem mkB_len (ns : List UInt8) (sp : Nat) : (mkB ns sp).length ≤ ns.length := by
  have := build_len (entsN ns sp)
  rw [entsN_len] at this
  exact this
theorem mkB_ne {ns : List UInt8} (sp : Nat) (h : ns ≠ []) (hl : ns.length ≤ 1000) : mkB ns sp ≠ [] := by
  have hl2 := entsN_len ns sp
  have hm := entsN_may (ns := ns) (sp := sp) hl
  have hpos := List.length_pos_iff.2 h
  unfold mkB
  cases hx : entsN ns sp with
  | nil => rw [hx] at hl2; simp at hl2; omega
  | cons e r => exact build_ne (hm e (by rw [hx]; simp))

/-- The document's memory 'q' keeps the entries 'L', in memory of the call's own. -/
structure RM (W w : World) (q : Nat) (L : List Ent) : Prop where
  bel : Below W.heap.size W w
  obj : ∃ G, Ro G w q L ∧ ∀ k, G k → W.heap.size ≤ k
theorem RM.below {W w w' : World} {q : Nat} {L : List Ent} (h : RM W w q L) (hb : Below w.heap.size w w') : RM W w' q L := by
  obtain ⟨G, h1, h2⟩ := h.obj
  exact ⟨h.bel.trans (hb.mono h.bel.size), G, h1.below hb, h2⟩
theorem RM.start (W : World) : RM W (W.alloc (.cells #[.slice none 0 0] 83)) W.heap.size [] := by
  refine ⟨(Below.refl _ _).alloc (Nat.le_refl _) _, fun k => k = W.heap.size, ⟨.slice none 0 0, heap_alloc_new W _, World.ownsRow_nil _ _ _ _, (fun h => by cases h), fun k => ⟨fun h => .inl h, fun h => h.elim id fun h => by cases h⟩, fun e he => by cases he⟩, fun k hk => by omega⟩
theorem rm_add {W w : World} {q : Nat} {L : List Ent} (h : RM W w q L) (e : Ent) (he : e.fits) (hlen : L.length < 100000) :
    Calls Tryz.prog 38 #[.pointer (some ⟨q, 0, none⟩), .agg #[.string e.u, .int .i64 e.s, .int .i64 e.k, .string e.v]] w fun r w' => r = .returned (.bool (addB e L)) ∧ RM W w' q (addL e L) := by
  obtain ⟨G, h2, h5⟩ := h.obj
  refine (radd_any h2 e he hlen).mono ?_
  rintro r w' ⟨rfl, G', hm, ht, hg⟩
  have hs := h.bel.size
  refine ⟨rfl, h.bel.trans (ht.below h5 hs), G', hm, fun k hG' => ?_⟩
  rcases hg k hG' with h | h
  · exact h5 k h
  · omega
theorem RM.own {W w : World} {q : Nat} {L : List Ent} (h : RM W w q L) : ∃ v, w.heap[q]? = some (.cells #[v] 83 (0, 0)) ∧ OwnE w W.heap.size v L := by
  obtain ⟨G, ⟨v, h1, h2, _, h4, _⟩, h5⟩ := h.obj
  exact ⟨v, h1, own_base h2 fun k hk => h5 k ((h4 k).2 (.inr hk))⟩

/-- What Make tells. -/
def RetMk (w : World) (L : List Ent) (e : Ending) (w' : World) : Prop := ∃ x, e = .returned x ∧ OwnE w' w.heap.size x L ∧ Below w.heap.size w w'

set_option maxRecDepth 100000 in
set_option maxHeartbeats 1000000 in
theorem make12_any (v : Value) (ns : List UInt8) (sp : Nat) (hsp : sp ≤ 255) (w : World) (hv : RdB w v ns) (hl : ns.length ≤ 1000) : Calls Tryz.prog 16 #[v, .int .u8 (sp : Int)] w (RetMk w (mkB ns sp)) := by
  have HV := Lib.hid hv
  obtain ⟨va, vc, rfl, hc1, hc2⟩ := hv.form
  unfold maxLen at hc2
  clear hv
  obtain ⟨s4, hs4⟩ : ∃ s4, sp % 40 = s4 := ⟨_, rfl⟩
  have a1 : (sp : Int).tmod 40 = (s4 : Int) := by rw [Int.tmod_eq_emod_of_nonneg (by omega)]; omega
  have a2 : (sp : Int) % 40 = (s4 : Int) := by omega
  have a3 : s4 < 40 := by omega
  have HS4 := Lib.hid hs4
  have HL := Lib.hid (entsN_len ns sp)
  have HAT := Lib.hid (fun k (hk : k < ns.length) => entsN_at ns sp hk)
  have HBT := Lib.hid (fun k (hk : k < (entsN ns sp).length) => build_take hk)
  have HBL := Lib.hid (fun k => build_len ((entsN ns sp).take k))
  clear hs4
  go_enter Tryz.func16, Tryz.ntmps16
  go_wp2
  go_loopw [6] (fun i wr => ∃ k : Nat, k ≤ ns.length ∧ i = .int .i64 (k : Int) ∧ Hid (RM w wr w.heap.size (build ((entsN ns sp).take k)))) (fun i _ => ns.length - (intOf i).toNat)
  case atStart => exact ⟨0, Nat.zero_le _, rfl, Lib.hid (RM.start w)⟩
  case round =>
    obtain ⟨k, hk, rfl, HR⟩ := hrel
    by_cases hlt : k < ns.length
    · obtain ⟨b, off, cap', hvv, _, _, hbw, hcell⟩ := HV.out.cells (by intro h; subst h; simp at hlt)
      cases hvv
      have z0 := (HR.out.bel.cell (p := ⟨b, off + k, none⟩) hbw).trans (hcell k hlt)
      have HN : Hid (build ((entsN ns sp).take (k + 1)) = addL (entN sp (ns.getD k 0).toNat k) (build ((entsN ns sp).take k))) := Lib.hid (by rw [HBT.out k (by rw [HL.out]; exact hlt), HAT.out k hlt])
      have HF := Lib.hid (Ent.may_fits (entN_may sp (ns.getD k 0).toNat k (by have := (ns.getD k 0).toNat_lt; omega) (by omega)))
      have hnb := byte_le (ns.getD k 0)
      unfold bv at z0
      have HBK := Lib.hid (HBL.out k)
      generalize (ns.getD k 0).toNat = n at *
      generalize build ((entsN ns sp).take k) = Lk at *
      obtain ⟨m, hm⟩ : ∃ m, n % (3 + s4) = m := ⟨_, rfl⟩
      have b1 : (n : Int).tmod (3 + (s4 : Int)) = (m : Int) := by rw [Int.tmod_eq_emod_of_nonneg (by omega), ← hm]; simp
      have b2 : (n : Int) % (3 + (s4 : Int)) = (m : Int) := by rw [← hm]; simp
      have b3 : ¬ (3 : Int) + (s4 : Int) = 0 := by omega
      have HD1 := Lib.hid (rdigits_any m (by have := Nat.mod_lt n (show 0 < 3 + s4 by omega); omega))
      have HD2 := Lib.hid (rdigits_any n (by omega))
      obtain ⟨r7, hr7⟩ : ∃ r7, n % 7 = r7 := ⟨_, rfl⟩
      have d1 : (n : Int).tmod 7 = (r7 : Int) := by rw [Int.tmod_eq_emod_of_nonneg (by omega)]; omega
      have d2 : (n : Int) % 7 = (r7 : Int) := by omega
      have hdl := digL_len m
      have hml := Nat.mod_lt n (show 0 < 3 + s4 by omega)
      have hlim : ¬ 9223372036854775807 < 3 + (digL m).length := by omega
      clear hcell hbw hdl hml
      by_cases hz : r7 = 0
      · have hzb : ((r7 : Int) == 0) = true := by rw [hz]; rfl
        have HE := Lib.hid (show entN sp n k = ⟨⟨#[107, 101, 121]⟩ ++ strB (digL m), 1 + (k : Int), 2, ⟨#[]⟩⟩ by unfold entN keyN; rw [if_pos (hr7.trans hz), HS4.out, hm])
        rw [HE.out] at HN HF
        have HA : Hid (∀ wz, Below wr.heap.size wr wz → Calls Tryz.prog 38 #[.pointer (some ⟨w.heap.size, 0, none⟩), .agg #[.string (⟨#[107, 101, 121]⟩ ++ strB (digL m)), .int .i64 (1 + (k : Int)), .int .i64 2, .string ⟨#[]⟩]] wz fun r w' => r = .returned (.bool (addB ⟨⟨#[107, 101, 121]⟩ ++ strB (digL m), 1 + (k : Int), 2, ⟨#[]⟩⟩ Lk)) ∧ RM w w' w.heap.size (addL ⟨⟨#[107, 101, 121]⟩ ++ strB (digL m), 1 + (k : Int), 2, ⟨#[]⟩⟩ Lk)) := Lib.hid fun wz hz => rm_add (HR.out.below hz) ⟨⟨#[107, 101, 121]⟩ ++ strB (digL m), 1 + (k : Int), 2, ⟨#[]⟩⟩ HF.out (by have := HBK.out; rw [List.length_take] at this; omega)
        clear hm hr7 hz
        go_wp2_with (first | (go_at_call 17; first | ((with_reducible refine (HD1.out _).mono ?_); rintro e w1 ⟨rfl, hb1⟩) | ((with_reducible refine (HD2.out _).mono ?_); rintro e w2 ⟨rfl, hb2⟩)) | (go_at_call 38; (refine (HA.out _ (belowT (belowT hb1 hb2) ((Below.refl _ _).alloc (Nat.le_refl _) _))).mono ?_); rintro e w3 ⟨rfl, hr3⟩))
        exact ⟨⟨k + 1, hlt, by go_num, Lib.hid (by rw [HN.out]; exact hr3)⟩, by simp [intOf]; omega⟩
      · have hzb : ((r7 : Int) == 0) = false := by have : (r7 : Int) ≠ 0 := (by omega); simpa using this
        have HE := Lib.hid (show entN sp n k = ⟨⟨#[107, 101, 121]⟩ ++ strB (digL m), 1 + (k : Int), 1, (strB (digL n))⟩ by unfold entN keyN; rw [if_neg (fun h => hz (hr7.symm.trans h)), HS4.out, hm])
        rw [HE.out] at HN HF
        have HA : Hid (∀ wz, Below wr.heap.size wr wz → Calls Tryz.prog 38 #[.pointer (some ⟨w.heap.size, 0, none⟩), .agg #[.string (⟨#[107, 101, 121]⟩ ++ strB (digL m)), .int .i64 (1 + (k : Int)), .int .i64 1, .string (strB (digL n))]] wz fun r w' => r = .returned (.bool (addB ⟨⟨#[107, 101, 121]⟩ ++ strB (digL m), 1 + (k : Int), 1, (strB (digL n))⟩ Lk)) ∧ RM w w' w.heap.size (addL ⟨⟨#[107, 101, 121]⟩ ++ strB (digL m), 1 + (k : Int), 1, (strB (digL n))⟩ Lk)) := Lib.hid fun wz hz => rm_add (HR.out.below hz) ⟨⟨#[107, 101, 121]⟩ ++ strB (digL m), 1 + (k : Int), 1, (strB (digL n))⟩ HF.out (by have := HBK.out; rw [List.length_take] at this; omega)
        clear hm hr7 hz
        go_wp2_with (first | (go_at_call 17; first | ((with_reducible refine (HD1.out _).mono ?_); rintro e w1 ⟨rfl, hb1⟩) | ((with_reducible refine (HD2.out _).mono ?_); rintro e w2 ⟨rfl, hb2⟩)) | (go_at_call 38; (refine (HA.out _ (belowT (belowT hb1 hb2) ((Below.refl _ _).alloc (Nat.le_refl _) _))).mono ?_); rintro e w3 ⟨rfl, hr3⟩))
        exact ⟨⟨k + 1, hlt, by go_num, Lib.hid (by rw [HN.out]; exact hr3)⟩, by simp [intOf]; omega⟩
    · have hke : k = ns.length := by omega
      have HRE := Lib.hid (show RM w wr w.heap.size (mkB ns sp) by
        have h := HR.out
        rw [hke, ← HL.out, List.take_length] at h
        exact h)
      obtain ⟨x, hx1, hx2⟩ := HRE.out.own
      have HX := Lib.hid hx2
      have x0 := blk_cell (i := 0) hx1
      replace x0 : wr.cell? ⟨w.heap.size, 0, none⟩ = some x := x0
      clear hke hx1 hx2
      go_wp2
      go_ret
      exact ⟨_, rfl, HX.out, HRE.out.bel⟩
end Go.Proofs.YteeikmpfgbfeoaaGreat

/-
  What the statements of chapters 12 and 13 go through; a number of theirs.
-/
namespace Go.Proofs.YteeikmpfgbfeoaaGreat
open Go.RowKit

def SmallE (es : List Ent) : Prop := es.length ≤ 1000 ∧ ∀ e ∈ es, e.u.size ≤ 1000 ∧ e.v.size ≤ 1000

set_option maxRecDepth 100000 in
theorem num12_any (n : Int) (w : World) : Calls Tryz.prog 14 #[.int .i64 n] w fun e w' => e = .returned (.int .i64 n) ∧ w = w' := by
  go_enter Tryz.func14, Tryz.ntmps14
  go_wp2
  go_ret
  exact ⟨rfl, rfl⟩

/-- Which it says: only where it is false all of them are small. -/
def FewE (es : List Ent) (e : Ending) : Prop := ∃ g : Bool, e = .returned (.bool g) ∧ (g = false → SmallE es)
theorem fewE_yes (es : List Ent) : FewE es (.returned (.bool true)) := ⟨true, rfl, fun h => by cases h⟩
theorem fewE_no {es : List Ent} (h : es.length ≤ 300) (h2 : ∀ j, j < es.length → (es.getD j Ent.none_).u.size ≤ 300 ∧ (es.getD j Ent.none_).v.size ≤ 1000) : FewE es (.returned (.bool false)) := by
  refine ⟨false, rfl, fun _ => ⟨by omega, fun e he => ?_⟩⟩
  obtain ⟨j, hj, rfl⟩ := List.mem_iff_getElem.1 he
  have := h2 j hj
  rw [show es.getD j Ent.none_ = es[j] by simp [List.getD, hj]] at this
  omega

set_option maxRecDepth 100000 in
set_option maxHeartbeats 2000000 in
theorem great12_any (v : Value) (es : List Ent) (w : World) (hv : RdE w v es) :
    Calls Tryz.prog 5 #[v] w fun e w' => FewE es e ∧ w = w' := by
  obtain ⟨a, c, rfl, h1, h2⟩ := hv.form
  have HV := Lib.hid hv
  clear hv
  unfold maxLen at h2
  go_enter Tryz.func5, Tryz.ntmps5
  go_wp2
  go_loop [3] (fun i => ∃ k : Nat, k ≤ es.length ∧ k ≤ 400 ∧ i = .int .i64 (k : Int) ∧ Hid (∀ j, j < k → (es.getD j Ent.none_).u.size ≤ 300 ∧ (es.getD j Ent.none_).v.size ≤ 1000)) (fun i => 400 - (intOf i).toNat)
  case atStart => exact ⟨0, Nat.zero_le _, by omega, rfl, Lib.hid (fun j h => by omega)⟩
  case round =>
    obtain ⟨k, hk, hk2, rfl, HK⟩ := hrel
    by_cases hlt : k < es.length
    · by_cases h400 : k < 400
      · obtain ⟨_, _, hva, hone⟩ := HV.out.one
        cases hva
        obtain ⟨b, off, rfl, hbw, c0, c1, c2, c3, hfit⟩ := hone k hlt
        have HMO := Lib.hid (show (es.getD k Ent.none_).u.size ≤ 300 ∧ (es.getD k Ent.none_).v.size ≤ 1000 → ∀ j, j < k + 1 → (es.getD j Ent.none_).u.size ≤ 300 ∧ (es.getD j Ent.none_).v.size ≤ 1000 from fun h j hj => by
          rcases Nat.lt_or_ge j k with h1 | h1
          · exact HK.out j h1
          · obtain rfl : j = k := by omega
            exact h)
        clear hone hfit c1 c2 hbw
        generalize es.getD k Ent.none_ = X at *
        obtain ⟨xu, xs, xk, xv⟩ := X
        simp only at c0 c3
        have hk3 : decide ((k : Int) < 400) = true := by simp; omega
        by_cases h3 : 300 < xu.size
        · have h3' : decide ((300 : Int) < (xu.size : Int)) = true := by simp; omega
          clear HMO
          go_wp2
          go_ret
          exact ⟨fewE_yes _, rfl⟩
        · have h3' : decide ((300 : Int) < (xu.size : Int)) = false := by simp; omega
          by_cases h4 : 1000 < xv.size
          · have h4' : decide ((1000 : Int) < (xv.size : Int)) = true := by simp; omega
            clear HMO
            go_wp2
            go_ret
            exact ⟨fewE_yes _, rfl⟩
          · have h4' : decide ((1000 : Int) < (xv.size : Int)) = false := by simp; omega
            have HN := Lib.hid (HMO.out ⟨by simp only; omega, by simp only; omega⟩)
            clear HMO
            go_wp2
            exact ⟨⟨k + 1, hlt, by omega, by go_num, HN⟩, by simp [intOf]; omega⟩
      · have hk3 : decide ((k : Int) < 400) = false := by simp; omega
        have hgt : decide ((300 : Int) < (es.length : Int)) = true := by simp; omega
        go_wp2
        go_ret
        exact ⟨fewE_yes _, rfl⟩
    · have hke : decide ((k : Int) < (es.length : Int)) = false := by simp; omega
      by_cases h80 : 300 < es.length
      · have hgt : decide ((300 : Int) < (es.length : Int)) = true := by simp; omega
        go_wp2
        go_ret
        exact ⟨fewE_yes _, rfl⟩
      · have hgt : decide ((300 : Int) < (es.length : Int)) = false := by simp; omega
        have HN := Lib.hid (fewE_no (es := es) (by omega) (fun j hj => HK.out j (by omega)))
        go_wp2
        go_ret
        exact ⟨HN.out, rfl⟩
end Go.Proofs.YteeikmpfgbfeoaaGreat

/-
  Entries made by numbers are small; a row of bytes.
-/
namespace Go.Proofs.YteeikmpfgbfeoaaGreat
open Go.RowKit

/-- A row of bytes that was just laid. -/
theorem rdB_row (w : World) (l : List UInt8) (hl : l.length ≤ 1000) : RdB (w.alloc (.cells (l.map bv).toArray 5)) (.slice (some ⟨w.heap.size, 0, none⟩) l.length l.length) l := by
  refine ⟨_, l.length, rfl, Nat.le_refl _, by unfold maxLen; omega, by simp, .inr ⟨w.heap.size, 0, rfl, by simp, fun j u hj => ?_⟩⟩
  rw [Nat.zero_add, cell_of_row _ w.heap.size j _ 5 (0, 0) (heap_alloc_new w _)]
  simpa using hj

theorem may_small {es : List Ent} (h : ∀ e ∈ es, e.may = true) (hl : es.length ≤ 1000) : SmallE es :=
  ⟨hl, fun e he => by have := may_kind (h e he); omega⟩
theorem mk_fits (ns : List UInt8) (sp : Nat) : ∀ e ∈ mkB ns sp, e.fits := fun e he => Ent.may_fits (mkB_may ns sp e he)

end Go.Proofs.YteeikmpfgbfeoaaGreat

/-
  Chapter 13, what is asked of package table: as contracts, which the walks take and the program's own texts give; tables are small.
-/
namespace Go.Proofs.YteeikmpfgbfeoaaGreat
open Go.RowKit

theorem blk_small {es : List Ent} (h : putErr es = 0) : (blockL es).length + 8 ≤ 720 * es.length := by
  obtain ⟨h1, h2, _⟩ := putErr_ok h
  have h3 := bodyN_len (fun k hk => rising_may h1 hk) es.length (Nat.le_refl _)
  have h4 := List.length_pos_iff.2 h2
  rw [blockL_len]
  omega
theorem tab_small {es : List Ent} {per : Nat} (hr : risingB es = true) (h1 : 1 ≤ per) (h2 : per ≤ 64) : ∀ k, k ≤ nBlk es per → (tabB es per k).length ≤ 720 * min (k * per) es.length
  | 0, _ => by simp [tabB]
  | k + 1, hk => by
    have h3 := tab_small hr h1 h2 k (by omega)
    have h4 := (nBlk_lt h1 k).1 hk
    have h5 := blk_small (part_err hr h1 h2 h4)
    rw [part_len] at h5
    unfold tabB blkF
    rw [List.length_append, frRaw_length, show (k + 1) * per = k * per + per from Nat.succ_mul k per]
    have e1 : min (k * per + per) es.length = min (k * per) es.length + min per (es.length - k * per) := by omega
    rw [e1]
    omega
theorem nBlk_le {es : List Ent} {per : Nat} (h1 : 1 ≤ per) (h2 : es ≠ []) : nBlk es per ≤ es.length := by
  have hp := List.length_pos_iff.2 h2
  rcases Nat.lt_or_ge es.length (nBlk es per) with h | h
  · have := (nBlk_lt h1 es.length).1 h
    have h3 : es.length * 1 ≤ es.length * per := Nat.mul_le_mul_left _ h1
    omega
  · exact h
theorem table_small {es : List Ent} {per : Nat} {f : List UInt8} (hm : MayT es) (h1 : 1 ≤ per) (h2 : per ≤ 64) (hf : f.length ≤ 100000) : 17 ≤ (tableL es per f).length ∧ (tableL es per f).length ≤ 1000000 := by
  have h3 := tab_small hm.1 h1 h2 (nBlk es per) (Nat.le_refl _)
  have h4 := nBlk_le h1 hm.2.1
  have h5 := idxB_len (es := es) (per := per) (fun k hk => part_err hm.1 h1 h2 ((nBlk_lt h1 k).1 hk)) (by have := hm.2.2; omega) (nBlk es per) (Nat.le_refl _)
  have h6 := hm.2.2
  unfold tableL
  simp only [List.length_append, frRaw_length, fixL_length, List.length_cons, List.length_nil]
  omega
theorem getT_put {es : List Ent} {per : Nat} {f : List UInt8} (hm : MayT es) (h1 : 1 ≤ per) (h2 : per ≤ 64) (hf : f.length ≤ 100000) : getT (tableL es per f) = some (es, f) :=
  getT_some (table_small hm h1 h2 hf).2 ⟨per, h1, h2, hm, by omega, rfl⟩
theorem findT_put {es : List Ent} {per : Nat} {f : List UInt8} (hm : MayT es) (h1 : 1 ≤ per) (h2 : per ≤ 64) (hf : f.length ≤ 100000) (u : ByteArray) (s : Int) : findT (tableL es per f) u s = some (if mayL f (hashL u.data.toList) then newest es u s else none) := by
  unfold findT
  rw [getT_put hm h1 h2 hf]
theorem putT_ok {es : List Ent} {per : Int} (h : putTErr es per = 0) : MayT es ∧ 1 ≤ per.toNat ∧ per.toNat ≤ 64 := by
  unfold putTErr at h
  split at h
  · omega
  · rename_i h1
    split at h
    · omega
    · rename_i h2
      refine ⟨⟨?_, fun e => h1 (.inr (.inr (.inr e))), by omega⟩, by omega, by omega⟩
      cases hr : risingB es with
      | true => rfl
      | false => exact absurd (.inr (.inr (.inl hr))) h1
theorem putT_may {es : List Ent} {per : Int} (hm : MayT es) (h1 : 1 ≤ per) (h2 : per ≤ 64) : putTErr es per = 0 := by
  unfold putTErr
  rw [if_neg, if_neg (by have := hm.2.2; omega)]
  rintro (h | h | h | h)
  · omega
  · omega
  · rw [hm.1] at h; cases h
  · exact hm.2.1 h
theorem mayT_mk {ns : List UInt8} (sp : Nat) (h : ns ≠ []) (hl : ns.length ≤ 256) : MayT (mkB ns sp) :=
  ⟨rising_up (mkB_up ns sp) (mkB_may ns sp), mkB_ne sp h (by omega), Nat.le_trans (mkB_len ns sp) hl⟩
theorem users_few (es : List Ent) : (usersL es).length ≤ es.length := usersN_len es es.length

/-- A table's entries: none, where the bytes are no table. -/
noncomputable def entsT (b : List UInt8) : List Ent := match getT b with
  | none => []
  | some (es, _) => es
noncomputable def errT (b : List UInt8) : Int := if (getT b).isSome then 0 else 5
theorem entsT_fits (b : List UInt8) : (∀ e ∈ entsT b, e.fits) ∧ (entsT b).length ≤ 256 := by
  unfold entsT
  cases h : getT b with
  | none => exact ⟨fun e he => (by cases he), by simp⟩
  | some x =>
    obtain ⟨per, _, _, hm, _⟩ := getT_is (es := x.1) (f := x.2) h
    exact ⟨fun e he => Ent.may_fits (rising_all hm.1 e he), hm.2.2⟩

def RetAllT (w : World) (b : List UInt8) (e : Ending) (w' : World) : Prop := ∃ x, e = .returned (.tuple #[x, .int .i64 (errT b)]) ∧ OwnE w' w.heap.size x (entsT b) ∧ Below w.heap.size w w'
def PutTC : Prop := ∀ (v : Value) (es : List Ent) (per : Int) (b : Nat) (w : World) (_ : RdE w v es) (_ : SmallE es) (_ : (Lit.int .i64 per).wf = true) (_ : (Lit.float .f64 b).wf = true), Calls Tryz.prog 7 #[v, .int .i64 per, .float .f64 b] w (RetPutT w es per b)
def AllTC : Prop := ∀ (v : Value) (b : List UInt8) (w : World) (_ : RdB w v b) (_ : b.length ≤ 1000000), Calls Tryz.prog 9 #[v] w (RetAllT w b)
def FindTC : Prop := ∀ (v : Value) (b : List UInt8) (u : ByteArray) (s : Int) (w : World) (_ : RdB w v b) (_ : b.length ≤ 1000000) (_ : u.size ≤ 1000) (_ : (Lit.int .i64 s).wf = true),
    Calls Tryz.prog 11 #[v, .string u, .int .i64 s] w fun e w' => e = .returned (ansF (findT b u s)) ∧ Below w.heap.size w w'
def EndsTC : Prop := ∀ (v : Value) (es : List Ent) (w : World) (_ : RdE w v es) (_ : SmallE es),
    Calls Tryz.prog 13 #[v] w fun e w' => e = .returned (.tuple #[.string (es.getD 0 Ent.none_).u, .string (es.getD (es.length - 1) Ent.none_).u]) ∧ Below w.heap.size w w'

theorem RetParts.all {w w' : World} {b : List UInt8} {e : Ending} (h : RetParts w b e w') : ∃ x y, e = .returned (.tuple #[x, y, .int .i64 (errT b)]) ∧ OwnE w' w.heap.size x (entsT b) ∧ Below w.heap.size w w' := by
  unfold RetParts at h
  unfold errT entsT
  cases hg : getT b with
  | none =>
    rw [hg] at h
    obtain ⟨rfl, hb⟩ := h
    exact ⟨_, _, rfl, OwnE.nil _ _, hb⟩
  | some z =>
    rw [hg] at h
    obtain ⟨x, y, rfl, hx, _, hb⟩ := h
    exact ⟨x, y, rfl, hx, hb⟩
end Go.Proofs.YteeikmpfgbfeoaaGreat

/-
  Chapter 13, the statements' example.
-/
namespace Go.Proofs.YteeikmpfgbfeoaaGreat
open Go.RowKit

theorem errT_put {es : List Ent} {per : Nat} {f : List UInt8} (hm : MayT es) (h1 : 1 ≤ per) (h2 : per ≤ 64) (hf : f.length ≤ 100000) : errT (tableL es per f) = 0 := by
  unfold errT
  rw [getT_put hm h1 h2 hf]
  rfl
theorem entsT_put {es : List Ent} {per : Nat} {f : List UInt8} (hm : MayT es) (h1 : 1 ≤ per) (h2 : per ≤ 64) (hf : f.length ≤ 100000) : entsT (tableL es per f) = es := by
  unfold entsT
  rw [getT_put hm h1 h2 hf]
theorem makeF_few (es : List Ent) (b : Nat) (h : es.length ≤ 10000) : (makeL (hashes (usersL es)) b).length ≤ 100000 :=
  makeL_few _ b (by unfold hashes; rw [List.length_map]; exact Nat.le_trans (users_few es) h)

/-- A table of entries that may be in one: what Put tells of it. -/
theorem put_yes (HP : PutTC) {v : Value} {es : List Ent} {per b : Nat} {w : World} (hv : RdE w v es) (hm : MayT es) (h1 : 1 ≤ per) (h2 : per ≤ 64) (hb : (Lit.float .f64 b).wf = true) :
    Calls Tryz.prog 7 #[v, .int .i64 (per : Int), .float .f64 b] w fun e w' => ∃ x, e = .returned (.tuple #[x, .int .i64 0]) ∧ OwnB w' w.heap.size 5 x (tableL es per (makeL (hashes (usersL es)) b)) ∧ Below w.heap.size w w' := by
  have h0 := putT_may (per := (per : Int)) hm (by omega) (by omega)
  refine (HP v es per b w hv (may_small (rising_all hm.1) (by have := hm.2.2; omega)) (by simp only [Lit.wf, IntKind.min, IntKind.max, IntKind.signed, IntKind.bits]; simp; omega) hb).mono ?_
  rintro e w' ⟨x, rfl, ho, hb'⟩
  rw [h0, if_pos rfl] at ho
  exact ⟨x, by rw [h0], ho, hb'⟩

set_option maxRecDepth 100000 in
set_option maxHeartbeats 1000000 in
theorem awake13_any (HP : PutTC) (HA : AllTC) (w : World) : Calls Tryz.prog 6 #[] w fun e w' => e = .returned (.bool true) ∧ Below w.heap.size w w' := by
  have HMK := Lib.hid (fun v w hv => make12_any v [1] 0 (by omega) w hv (by simp))
  have hm := mayT_mk (ns := [1]) 0 (by simp) (by simp)
  have hl1 : (mkB [1] 0).length = 1 := by
    have h1 := mkB_len [1] 0
    have h2 := List.length_pos_iff.2 hm.2.1
    simp at h1
    omega
  generalize mkB [1] 0 = L at *
  have hf := makeF_few L 4621819117588971520 (by omega)
  have HP1 : Hid (∀ v w, OwnE w 0 v L → Calls Tryz.prog 7 #[v, .int .i64 4, .float .f64 4621819117588971520] w fun e w' => ∃ x, e = .returned (.tuple #[x, .int .i64 0]) ∧ RdB w' x (tableL L 4 (makeL (hashes (usersL L)) 4621819117588971520)) ∧ Below w.heap.size w w') := Lib.hid fun v w ho => by
    refine (put_yes (per := 4) HP (ho.read fun e he => Ent.may_fits (rising_all hm.1 e he)) hm (by omega) (by omega) (by kernel_rfl)).mono ?_
    rintro e w' ⟨x, rfl, ho, hb⟩
    exact ⟨x, rfl, ho.read, hb⟩
  have ht := table_small (per := 4) hm (by omega) (by omega) hf
  have he1 := errT_put (per := 4) hm (by omega) (by omega) hf
  have he2 := entsT_put (per := 4) hm (by omega) (by omega) hf
  generalize tableL L 4 (makeL (hashes (usersL L)) 4621819117588971520) = T at *
  have HA1 : Hid (∀ v w, RdB w v T → Calls Tryz.prog 9 #[v] w fun e w' => ∃ a c, e = .returned (.tuple #[.slice a 1 c, .int .i64 0]) ∧ Below w.heap.size w w') := Lib.hid fun v w hv => by
    refine (HA v T w hv ht.2).mono ?_
    rintro e w' ⟨x, rfl, ho, hb⟩
    rw [he2] at ho
    obtain ⟨a, c, rfl, _, _⟩ := ho.form
    exact ⟨a, c, by rw [he1, hl1], hb⟩
  obtain ⟨tl, htl⟩ : ∃ tl, T.length = tl := ⟨_, rfl⟩
  have HTL := Lib.hid htl
  have ht17 : 17 ≤ tl := by omega
  have hgt : decide ((16 : Int) < (tl : Int)) = true := by simp; omega
  have hgtn : decide (16 < tl) = true := by simp; omega
  clear hm hl1 hf ht he1 he2 htl
  go_enter Tryz.func6, Tryz.ntmps6
  go_wp2_with (first | (go_at_call 16; (refine (HMK.out _ _ (rdB_row w [1] (by simp))).mono ?_); rintro e w3 ⟨x3, rfl, ho3, hb3⟩; have HO3 := Lib.hid (own_base (B' := 0) ho3 fun _ _ => Nat.zero_le _)) | (go_at_call 7; (refine (HP1.out _ _ HO3.out).mono ?_); rintro e w4 ⟨x4, rfl, hr4, hb4⟩; obtain ⟨a4, c4, hx4, _, _⟩ := hr4.form; rw [HTL.out] at hx4; subst hx4; have HR4 := Lib.hid hr4; clear hr4) | (go_at_call 9; (refine (HA1.out _ _ HR4.out).mono ?_); rintro e w5 ⟨a5, c5, rfl, hb5⟩) | (go_at_call 14; (refine (num12_any _ _).mono ?_); rintro e w6 ⟨rfl, rfl⟩))
  go_ret
  exact ⟨rfl, belowT (belowT (belowT ((Below.refl _ _).alloc (Nat.le_refl _) _) hb3) hb4) hb5⟩
end Go.Proofs.YteeikmpfgbfeoaaGreat

/-
  SameEntries of one list, told twice.
-/
namespace Go.Proofs.YteeikmpfgbfeoaaGreat
open Go.RowKit

set_option maxRecDepth 100000 in
set_option maxHeartbeats 4000000 in
/-- SameEntries of one list, told twice. -/
theorem rsame_ent (va vb : Value) (l : List Ent) (w : World) (hl : l.length < 1000000) (ha : OwnE w 0 va l) (hb : OwnE w 0 vb l) :
    Calls Tryz.prog 15 #[va, vb] w fun e w' => e = .returned (.bool true) ∧ Below w.heap.size w w' := by
  obtain ⟨aa, ca, rfl, _, _⟩ := ha.form
  obtain ⟨ab, cb, rfl, _, _⟩ := hb.form
  have HA := Lib.hid ha
  have HB := Lib.hid hb
  clear ha hb
  go_enter Tryz.func15, Tryz.ntmps15
  go_wp2
  go_loopw [5] (fun i wr => ∃ k : Nat, k ≤ l.length ∧ i = .int .i64 k ∧ Hid (Below w.heap.size w wr)) (fun i _ => l.length - (intOf i).toNat)
  case atStart => exact ⟨0, Nat.zero_le _, rfl, Lib.hid (Below.refl _ _)⟩
  case round =>
    obtain ⟨k, hk, rfl, HBL⟩ := hrel
    by_cases hlt : k < l.length
    · obtain ⟨ba, rfl, hba, c0, c1, c2, c3⟩ := own_ent (HA.out.below HBL.out) hlt
      obtain ⟨bb, rfl, hbb, d0, d1, d2, d3⟩ := own_ent (HB.out.below HBL.out) hlt
      generalize l.getD k Ent.none_ = o at *
      go_wp2
      go_quiet (fail)
      go_wp2
      refine ⟨⟨k + 1, by omega, by go_num, Lib.hid (below_drewN HBL.out _)⟩, ?_⟩
      simp [intOf]; omega
    · go_wp2
      go_ret
      exact ⟨rfl, HBL.out⟩
end Go.Proofs.YteeikmpfgbfeoaaGreat
