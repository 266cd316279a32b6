import Derived.Test.YtdcjfgbngmdkfaaMemMath
import Derived.Test.YtdcjfgbngmdkfaaKeyGood
import Derived.Test.YtdcjfgbngmdkfaaWords
import Derived.Test.YtdcjfgbngmdkfaaMg01
import Derived.Test.YtdcjfgbngmdkfaaMg00
import Derived.Test.YtdcjfgbngmdkfaaRegion
import Derived.Deep.Cut

/-
  Entries that are taken up one after another: plain facts.
-/
namespace Go.Proofs.Ytdcjfgbngmdkfaa
open Go.RowKit

/-- The entries that are taken up, one after another. -/
def build (xs : List Ent) : List Ent := xs.foldl (fun acc e => addL e acc) []
theorem build_snoc (xs : List Ent) (e : Ent) : build (xs ++ [e]) = addL e (build xs) := by unfold build; rw [List.foldl_append]; rfl
theorem build_take {xs : List Ent} {k : Nat} (hk : k < xs.length) : build (xs.take (k + 1)) = addL (xs.getD k Ent.none_) (build (xs.take k)) := by
  rw [List.take_succ_eq_append_getElem hk, build_snoc]
  simp [List.getD, hk]
theorem build_len (xs : List Ent) : (build xs).length ≤ xs.length := by
  have key : ∀ (ys acc : List Ent), (ys.foldl (fun acc e => addL e acc) acc).length ≤ acc.length + ys.length := by
    intro ys
    induction ys with
    | nil => intro acc; simp
    | cons y r ih =>
      intro acc
      have h1 := ih (addL y acc)
      have h2 := addL_len y acc
      rw [List.foldl_cons, List.length_cons]
      omega
  have := key xs []
  unfold build
  simpa using this

theorem build_up (xs : List Ent) : Up (build xs) := by
  have key : ∀ (ys acc : List Ent), Up acc → Up (ys.foldl (fun acc e => addL e acc) acc) := by
    intro ys
    induction ys with
    | nil => intro acc h; exact h
    | cons y r ih => intro acc h; exact ih _ (addL_up h)
  exact key xs [] List.Pairwise.nil

theorem rising_up {L : List Ent} (hu : Up L) (hm : ∀ x ∈ L, x.may = true) : risingB L = true := by
  refine (rising_yes fun j hj => ?_).symm
  have e1 : L.getD j Ent.none_ = L[j] := by simp [List.getD, hj]
  cases j with
  | zero => exact goodAt_zero e1 (hm _ (List.getElem_mem _))
  | succ j =>
    have e2 : L.getD j Ent.none_ = L[j] := by simp [List.getD, Nat.lt_of_succ_lt hj]
    rw [goodAt_next e1 e2 (hm _ (List.getElem_mem _)), decide_eq_true_eq]
    exact (List.pairwise_iff_getElem.1 hu) j (j + 1) (by omega) hj (by omega)
end Go.Proofs.Ytdcjfgbngmdkfaa

/-
  What the document's Digits does, for numbers that are not below 0.
-/
namespace Go.Proofs.Ytdcjfgbngmdkfaa
open Go.RowKit

/-- A number's decimal digits. -/
def digL (n : Nat) : List UInt8 := if n < 10 then [UInt8.ofNat (48 + n)] else digL (n / 10) ++ [UInt8.ofNat (48 + n % 10)]
termination_by n
decreasing_by omega

theorem digL_low {n : Nat} (h : n < 10) : digL n = [UInt8.ofNat (48 + n)] := by rw [digL, if_pos h]
theorem digL_high {n : Nat} (h : ¬ n < 10) : digL n = digL (n / 10) ++ [UInt8.ofNat (48 + n % 10)] := by rw [digL, if_neg h]

theorem digL_len (n : Nat) : (digL n).length ≤ n + 1 := by
  induction n using Nat.strongRecOn with
  | ind n ih =>
    by_cases h : n < 10
    · rw [digL_low h]; simp
    · rw [digL_high h, List.length_append]
      have := ih (n / 10) (by omega)
      simp only [List.length_cons, List.length_nil]
      omega

theorem strB_app9 (a b : List UInt8) : strB a ++ strB b = strB (a ++ b) := by
  apply ByteArray.ext
  simp

theorem dig_byte {d : Nat} (h : d < 10) : ((UInt8.ofNat (48 + d)).toNat : Int) = 48 + (d : Int) := by
  rw [UInt8.toNat_ofNat']
  omega

/-- The string of one byte that was built. -/
theorem one_byte_run (w : World) (c : UInt8) (n : Int) (hn : n = (c.toNat : Int)) : (convert 23 9 (.slice (some ⟨w.heap.size, 0, none⟩) 1 1)).run Try.prog (w.alloc (.cells #[.int .u8 n] 5)) = .ok (.string (strB [c])) (w.alloc (.cells #[.int .u8 n] 5)) := by
  subst hn
  refine rdB_convert (l := [c]) ⟨_, 1, rfl, Nat.le_refl _, by unfold maxLen; omega, rfl, .inr ⟨w.heap.size, 0, rfl, by simp, fun j u hj => ?_⟩⟩ 23 5 9 Try.underlying23 Try.underlying5 Try.underlying9
  match j, hj with
  | 0, hj => simp at hj; subst hj; go_simp
  | j + 1, hj => simp at hj

set_option maxRecDepth 100000 in
set_option maxHeartbeats 4000000 in
theorem rdigits_any (n : Nat) (hn : n ≤ 1000000) (w : World) : Calls Try.prog 18 #[.int .i64 (n : Int)] w fun e w' => e = .returned (.string (strB (digL n))) ∧ Below w.heap.size w w' := by
  have HN := Lib.hid hn
  go_enter Try.func18, Try.ntmps18
  go_wp2
  go_loopw [0, 3] (fun m s wr => ∃ (k : Nat) (r : List UInt8), k ≤ n ∧ m = .int .i64 k ∧ s = .string (strB r) ∧ Hid (digL n = digL k ++ r) ∧ r.length + k ≤ n ∧ Hid (Below w.heap.size w wr)) (fun m _ _ => (intOf m).toNat)
  case atStart => exact ⟨n, [], Nat.le_refl _, rfl, rfl, Lib.hid (by simp), by simp, Lib.hid (Below.refl _ _)⟩
  case round =>
    obtain ⟨k, r, hk, rfl, rfl, HD, hr, HB⟩ := hrel
    obtain ⟨d, hd⟩ : ∃ d, k % 10 = d := ⟨_, rfl⟩
    by_cases h10 : k < 10
    · have g1 : ¬ (10 : Int) ≤ (k : Int) := by omega
      have w1 : IntKind.i64.wrap (48 + (k : Int)) = 48 + (k : Int) := IntWalk.i64_in _ (by omega)
      have hc := one_byte_run wr (UInt8.ofNat (48 + k)) (48 + (k : Int)) (dig_byte h10).symm
      have hT := strB_app9 [UInt8.ofNat (48 + k)] r
      have hlim : ¬ 9223372036854775807 < 1 + r.length := by omega
      have HR : Hid (digL n = [UInt8.ofNat (48 + k)] ++ r) := Lib.hid (by rw [HD.out, digL_low h10])
      clear hd HD
      generalize UInt8.ofNat (48 + k) = c at *
      have HT := Lib.hid hT
      clear hT
      go_wp2
      go_ret
      exact ⟨by rw [HR.out, ← HT.out]; rfl, HB.out.alloc HB.out.size _⟩
    · have hd10 : d < 10 := by omega
      have g1 : (10 : Int) ≤ (k : Int) := by omega
      have m1 : (k : Int).tmod 10 = (d : Int) := by rw [Int.tmod_eq_emod_of_nonneg (by omega)]; omega
      obtain ⟨q, hq⟩ : ∃ q, k / 10 = q := ⟨_, rfl⟩
      have m2 : (k : Int).tdiv 10 = (q : Int) := by rw [Int.tdiv_eq_ediv_of_nonneg (by omega)]; omega
      have w1 : IntKind.i64.wrap (48 + (d : Int)) = 48 + (d : Int) := IntWalk.i64_in _ (by omega)
      have w2 : IntKind.i64.wrap (d : Int) = (d : Int) := IntWalk.i64_in _ (by omega)
      have w3 : IntKind.i64.wrap (q : Int) = (q : Int) := IntWalk.i64_in _ (by omega)
      have hc := one_byte_run wr (UInt8.ofNat (48 + d)) (48 + (d : Int)) (dig_byte hd10).symm
      have hT := strB_app9 [UInt8.ofNat (48 + d)] r
      have hlim : ¬ 9223372036854775807 < 1 + r.length := by omega
      have HR : Hid (digL n = digL q ++ ([UInt8.ofNat (48 + d)] ++ r)) := Lib.hid (by rw [HD.out, digL_high h10, hq, hd, List.append_assoc])
      have HQ : Hid (q < k ∧ r.length + 1 + q ≤ n ∧ q ≤ n) := Lib.hid (by omega)
      clear hd HD hq
      generalize UInt8.ofNat (48 + d) = c at *
      go_wp2
      go_roundw
      case rel => exact ⟨q, [c] ++ r, by have := HQ.out; omega, rfl, rfl, HR, by have := HQ.out; simp; omega, Lib.hid (HB.out.alloc HB.out.size _)⟩
      case measure => have := HQ.out; simp [intOf]; omega
end Go.Proofs.Ytdcjfgbngmdkfaa

/-
  Chapter 12, the statements' own: entries in order, made by numbers.
-/
namespace Go.Proofs.Ytdcjfgbngmdkfaa
open Go.RowKit

/-- The entry of a number. -/
def keyN (sp n : Nat) : ByteArray := ⟨#[107, 101, 121]⟩ ++ strB (digL (n % (3 + sp % 40)))
def entN (sp n i : Nat) : Ent := if n % 7 = 0 then ⟨keyN sp n, 1 + (i : Int), 2, ⟨#[]⟩⟩ else ⟨keyN sp n, 1 + (i : Int), 1, strB (digL n)⟩
def entsN (ns : List UInt8) (sp : Nat) : List Ent := (List.range ns.length).map fun i => entN sp (ns.getD i 0).toNat i
def mkB (ns : List UInt8) (sp : Nat) : List Ent := build (entsN ns sp)

theorem keyN_len (sp n : Nat) : (keyN sp n).data.toList.length ≤ 64 := by
  unfold keyN
  have h := digL_len (n % (3 + sp % 40))
  have h2 : n % (3 + sp % 40) < 3 + sp % 40 := Nat.mod_lt _ (by omega)
  have : ((⟨#[107, 101, 121]⟩ : ByteArray) ++ strB (digL (n % (3 + sp % 40)))).data.toList.length = 3 + (digL (n % (3 + sp % 40))).length := by simp; omega
  rw [this]
  omega
theorem entN_may (sp n i : Nat) (hn : n ≤ 255) (hi : i ≤ 1000) : (entN sp n i).may = true := by
  have hk := keyN_len sp n
  have hd := digL_len n
  unfold entN
  split
  · unfold Ent.may mayE
    rw [mayB_mk hk (by simp only; omega) (by simp only; omega) (.inr rfl)]
    rfl
  · unfold Ent.may mayE
    rw [mayB_mk hk (by simp only; omega) (by simp only; omega) (.inl rfl)]
    have : (strB (digL n)).data.toList.length ≤ 512 := by
      show (digL n).length ≤ 512
      omega
    simpa using this
theorem entsN_len (ns : List UInt8) (sp : Nat) : (entsN ns sp).length = ns.length := by unfold entsN; simp
theorem entsN_at (ns : List UInt8) (sp : Nat) {k : Nat} (hk : k < ns.length) : (entsN ns sp).getD k Ent.none_ = entN sp (ns.getD k 0).toNat k := by
  unfold entsN
  simp [List.getD, hk]
theorem entsN_may {ns : List UInt8} {sp : Nat} (hl : ns.length ≤ 1000) : ∀ e ∈ entsN ns sp, e.may = true := by
  intro e he
  unfold entsN at he
  obtain ⟨i, hi, rfl⟩ := List.mem_map.1 he
  have := List.mem_range.1 hi
  exact entN_may _ _ _ (by have := (ns.getD i 0).toNat_lt; omega) (by omega)

theorem addL_ge (e : Ent) (l : List Ent) : l.length ≤ (addL e l).length := by
  unfold addL
  cases addB e l
  · exact Nat.le_refl _
  · show l.length ≤ (insE e l).length
    rw [ins_len]
    omega
theorem build_ne {e : Ent} {r : List Ent} (he : e.may = true) : build (e :: r) ≠ [] := by
  have h1 : addL e [] = [e] := by
    unfold addL addB
    rw [he]
    rfl
  have key : ∀ (ys acc : List Ent), acc.length ≤ (ys.foldl (fun acc e => addL e acc) acc).length := by
    intro ys
    induction ys with
    | nil => intro acc; exact Nat.le_refl _
    | cons y r ih => intro acc; exact Nat.le_trans (addL_ge y acc) (ih _)
  have := key r (addL e [])
  rw [h1] at this
  intro h
  unfold build at h
  rw [List.foldl_cons, h1] at h
  rw [h] at this
  simp at this
theorem build_may {xs : List Ent} : ∀ e ∈ build xs, e.may = true := by
  have key : ∀ (ys acc : List Ent), (∀ e ∈ acc, e.may = true) → ∀ e ∈ ys.foldl (fun acc e => addL e acc) acc, e.may = true := by
    intro ys
    induction ys with
    | nil => intro acc h; exact h
    | cons y r ih => intro acc h; exact ih _ (addL_may h)
  exact key xs [] (fun e h => by cases h)

theorem mkB_up (ns : List UInt8) (sp : Nat) : Up (mkB ns sp) := build_up _
theorem mkB_may (ns : List UInt8) (sp : Nat) : ∀ e ∈ mkB ns sp, e.may = true := build_may
theorem mkB_len (ns : List UInt8) (sp : Nat) : (mkB ns sp).length ≤ ns.length := by
  have := build_len (entsN ns sp)
  rw [entsN_len] at this
  exact this
theorem mkB_ne {ns : List UInt8} (sp : Nat) (h : ns ≠ []) (hl : ns.length ≤ 1000) : mkB ns sp ≠ [] := by
  have hl2 := entsN_len ns sp
  have hm := entsN_may (ns := ns) (sp := sp) hl
  have hpos := List.length_pos_iff.2 h
  unfold mkB
  cases hx : entsN ns sp with
  | nil => rw [hx] at hl2; simp at hl2; omega
  | cons e r => exact build_ne (hm e (by rw [hx]; simp))

/-- The document's memory 'q' keeps the entries 'L', in memory of the call's own. -/
structure RM (W w : World) (q : Nat) (L : List Ent) : Prop where
  bel : Below W.heap.size W w
  obj : ∃ G, Ro G w q L ∧ ∀ k, G k → W.heap.size ≤ k
theorem RM.below {W w w' : World} {q : Nat} {L : List Ent} (h : RM W w q L) (hb : Below w.heap.size w w') : RM W w' q L := by
  obtain ⟨G, h1, h2⟩ := h.obj
  exact ⟨h.bel.trans (hb.mono h.bel.size), G, h1.below hb, h2⟩
theorem RM.start (W : World) : RM W (W.alloc (.cells #[.slice none 0 0] 70)) W.heap.size [] := by
  refine ⟨(Below.refl _ _).alloc (Nat.le_refl _) _, fun k => k = W.heap.size, ⟨.slice none 0 0, heap_alloc_new W _, World.ownsRow_nil _ _ _ _, (fun h => by cases h), fun k => ⟨fun h => .inl h, fun h => h.elim id fun h => by cases h⟩, fun e he => by cases he⟩, fun k hk => by omega⟩
theorem rm_add {W w : World} {q : Nat} {L : List Ent} (h : RM W w q L) (e : Ent) (he : e.fits) (hlen : L.length < 100000) :
    Calls Try.prog 39 #[.pointer (some ⟨q, 0, none⟩), .agg #[.string e.u, .int .i64 e.s, .int .i64 e.k, .string e.v]] w fun r w' => r = .returned (.bool (addB e L)) ∧ RM W w' q (addL e L) := by
  obtain ⟨G, h2, h5⟩ := h.obj
  refine (radd_any h2 e he hlen).mono ?_
  rintro r w' ⟨rfl, G', hm, ht, hg⟩
  have hs := h.bel.size
  refine ⟨rfl, h.bel.trans (ht.below h5 hs), G', hm, fun k hG' => ?_⟩
  rcases hg k hG' with h | h
  · exact h5 k h
  · omega
theorem RM.own {W w : World} {q : Nat} {L : List Ent} (h : RM W w q L) : ∃ v, w.heap[q]? = some (.cells #[v] 70 (0, 0)) ∧ OwnE w W.heap.size v L := by
  obtain ⟨G, ⟨v, h1, h2, _, h4, _⟩, h5⟩ := h.obj
  exact ⟨v, h1, own_base h2 fun k hk => h5 k ((h4 k).2 (.inr hk))⟩

/-- What Make tells. -/
def RetMk (w : World) (L : List Ent) (e : Ending) (w' : World) : Prop := ∃ x, e = .returned x ∧ OwnE w' w.heap.size x L ∧ Below w.heap.size w w'

set_option maxRecDepth 100000 in
set_option maxHeartbeats 1000000 in
theorem make12_any (v : Value) (ns : List UInt8) (sp : Nat) (hsp : sp ≤ 255) (w : World) (hv : RdB w v ns) (hl : ns.length ≤ 1000) : Calls Try.prog 17 #[v, .int .u8 (sp : Int)] w (RetMk w (mkB ns sp)) := by
  have HV := Lib.hid hv
  obtain ⟨va, vc, rfl, hc1, hc2⟩ := hv.form
  unfold maxLen at hc2
  clear hv
  obtain ⟨s4, hs4⟩ : ∃ s4, sp % 40 = s4 := ⟨_, rfl⟩
  have a1 : (sp : Int).tmod 40 = (s4 : Int) := by rw [Int.tmod_eq_emod_of_nonneg (by omega)]; omega
  have a2 : (sp : Int) % 40 = (s4 : Int) := by omega
  have a3 : s4 < 40 := by omega
  have HS4 := Lib.hid hs4
  have HL := Lib.hid (entsN_len ns sp)
  have HAT := Lib.hid (fun k (hk : k < ns.length) => entsN_at ns sp hk)
  have HBT := Lib.hid (fun k (hk : k < (entsN ns sp).length) => build_take hk)
  have HBL := Lib.hid (fun k => build_len ((entsN ns sp).take k))
  clear hs4
  go_enter Try.func17, Try.ntmps17
  go_wp2
  go_loopw [6] (fun i wr => ∃ k : Nat, k ≤ ns.length ∧ i = .int .i64 (k : Int) ∧ Hid (RM w wr w.heap.size (build ((entsN ns sp).take k)))) (fun i _ => ns.length - (intOf i).toNat)
  case atStart => exact ⟨0, Nat.zero_le _, rfl, Lib.hid (RM.start w)⟩
  case round =>
    obtain ⟨k, hk, rfl, HR⟩ := hrel
    by_cases hlt : k < ns.length
    · obtain ⟨b, off, cap', hvv, _, _, hbw, hcell⟩ := HV.out.cells (by intro h; subst h; simp at hlt)
      cases hvv
      have z0 := (HR.out.bel.cell (p := ⟨b, off + k, none⟩) hbw).trans (hcell k hlt)
      have HN : Hid (build ((entsN ns sp).take (k + 1)) = addL (entN sp (ns.getD k 0).toNat k) (build ((entsN ns sp).take k))) := Lib.hid (by rw [HBT.out k (by rw [HL.out]; exact hlt), HAT.out k hlt])
      have HF := Lib.hid (Ent.may_fits (entN_may sp (ns.getD k 0).toNat k (by have := (ns.getD k 0).toNat_lt; omega) (by omega)))
      have hnb := byte_le (ns.getD k 0)
      unfold bv at z0
      have HBK := Lib.hid (HBL.out k)
      generalize (ns.getD k 0).toNat = n at *
      generalize build ((entsN ns sp).take k) = Lk at *
      obtain ⟨m, hm⟩ : ∃ m, n % (3 + s4) = m := ⟨_, rfl⟩
      have b1 : (n : Int).tmod (3 + (s4 : Int)) = (m : Int) := by rw [Int.tmod_eq_emod_of_nonneg (by omega), ← hm]; simp
      have b2 : (n : Int) % (3 + (s4 : Int)) = (m : Int) := by rw [← hm]; simp
      have b3 : ¬ (3 : Int) + (s4 : Int) = 0 := by omega
      have HD1 := Lib.hid (rdigits_any m (by have := Nat.mod_lt n (show 0 < 3 + s4 by omega); omega))
      have HD2 := Lib.hid (rdigits_any n (by omega))
      obtain ⟨r7, hr7⟩ : ∃ r7, n % 7 = r7 := ⟨_, rfl⟩
      have d1 : (n : Int).tmod 7 = (r7 : Int) := by rw [Int.tmod_eq_emod_of_nonneg (by omega)]; omega
      have d2 : (n : Int) % 7 = (r7 : Int) := by omega
      have hdl := digL_len m
      have hml := Nat.mod_lt n (show 0 < 3 + s4 by omega)
      have hlim : ¬ 9223372036854775807 < 3 + (digL m).length := by omega
      clear hcell hbw hdl hml
      by_cases hz : r7 = 0
      · have hzb : ((r7 : Int) == 0) = true := by rw [hz]; rfl
        have HE := Lib.hid (show entN sp n k = ⟨⟨#[107, 101, 121]⟩ ++ strB (digL m), 1 + (k : Int), 2, ⟨#[]⟩⟩ by unfold entN keyN; rw [if_pos (hr7.trans hz), HS4.out, hm])
        rw [HE.out] at HN HF
        have HA : Hid (∀ wz, Below wr.heap.size wr wz → Calls Try.prog 39 #[.pointer (some ⟨w.heap.size, 0, none⟩), .agg #[.string (⟨#[107, 101, 121]⟩ ++ strB (digL m)), .int .i64 (1 + (k : Int)), .int .i64 2, .string ⟨#[]⟩]] wz fun r w' => r = .returned (.bool (addB ⟨⟨#[107, 101, 121]⟩ ++ strB (digL m), 1 + (k : Int), 2, ⟨#[]⟩⟩ Lk)) ∧ RM w w' w.heap.size (addL ⟨⟨#[107, 101, 121]⟩ ++ strB (digL m), 1 + (k : Int), 2, ⟨#[]⟩⟩ Lk)) := Lib.hid fun wz hz => rm_add (HR.out.below hz) ⟨⟨#[107, 101, 121]⟩ ++ strB (digL m), 1 + (k : Int), 2, ⟨#[]⟩⟩ HF.out (by have := HBK.out; rw [List.length_take] at this; omega)
        clear hm hr7 hz
        go_wp2_with (first | (go_at_call 18; first | ((with_reducible refine (HD1.out _).mono ?_); rintro e w1 ⟨rfl, hb1⟩) | ((with_reducible refine (HD2.out _).mono ?_); rintro e w2 ⟨rfl, hb2⟩)) | (go_at_call 39; (refine (HA.out _ (belowT (belowT hb1 hb2) ((Below.refl _ _).alloc (Nat.le_refl _) _))).mono ?_); rintro e w3 ⟨rfl, hr3⟩))
        exact ⟨⟨k + 1, hlt, by go_num, Lib.hid (by rw [HN.out]; exact hr3)⟩, by simp [intOf]; omega⟩
      · have hzb : ((r7 : Int) == 0) = false := by have : (r7 : Int) ≠ 0 := (by omega); simpa using this
        have HE := Lib.hid (show entN sp n k = ⟨⟨#[107, 101, 121]⟩ ++ strB (digL m), 1 + (k : Int), 1, (strB (digL n))⟩ by unfold entN keyN; rw [if_neg (fun h => hz (hr7.symm.trans h)), HS4.out, hm])
        rw [HE.out] at HN HF
        have HA : Hid (∀ wz, Below wr.heap.size wr wz → Calls Try.prog 39 #[.pointer (some ⟨w.heap.size, 0, none⟩), .agg #[.string (⟨#[107, 101, 121]⟩ ++ strB (digL m)), .int .i64 (1 + (k : Int)), .int .i64 1, .string (strB (digL n))]] wz fun r w' => r = .returned (.bool (addB ⟨⟨#[107, 101, 121]⟩ ++ strB (digL m), 1 + (k : Int), 1, (strB (digL n))⟩ Lk)) ∧ RM w w' w.heap.size (addL ⟨⟨#[107, 101, 121]⟩ ++ strB (digL m), 1 + (k : Int), 1, (strB (digL n))⟩ Lk)) := Lib.hid fun wz hz => rm_add (HR.out.below hz) ⟨⟨#[107, 101, 121]⟩ ++ strB (digL m), 1 + (k : Int), 1, (strB (digL n))⟩ HF.out (by have := HBK.out; rw [List.length_take] at this; omega)
        clear hm hr7 hz
        go_wp2_with (first | (go_at_call 18; first | ((with_reducible refine (HD1.out _).mono ?_); rintro e w1 ⟨rfl, hb1⟩) | ((with_reducible refine (HD2.out _).mono ?_); rintro e w2 ⟨rfl, hb2⟩)) | (go_at_call 39; (refine (HA.out _ (belowT (belowT hb1 hb2) ((Below.refl _ _).alloc (Nat.le_refl _) _))).mono ?_); rintro e w3 ⟨rfl, hr3⟩))
        exact ⟨⟨k + 1, hlt, by go_num, Lib.hid (by rw [HN.out]; exact hr3)⟩, by simp [intOf]; omega⟩
    · have hke : k = ns.length := by omega
      have HRE := Lib.hid (show RM w wr w.heap.size (mkB ns sp) by
        have h := HR.out
        rw [hke, ← HL.out, List.take_length] at h
        exact h)
      obtain ⟨x, hx1, hx2⟩ := HRE.out.own
      have HX := Lib.hid hx2
      have x0 := blk_cell (i := 0) hx1
      replace x0 : wr.cell? ⟨w.heap.size, 0, none⟩ = some x := x0
      clear hke hx1 hx2
      go_wp2
      go_ret
      exact ⟨_, rfl, HX.out, HRE.out.bel⟩
end Go.Proofs.Ytdcjfgbngmdkfaa

/-
  Chapter 12, the statements' example.
-/
namespace Go.Proofs.Ytdcjfgbngmdkfaa
open Go.RowKit

/-- A row of bytes that was just laid. -/
theorem rdB_row (w : World) (l : List UInt8) (hl : l.length ≤ 1000) : RdB (w.alloc (.cells (l.map bv).toArray 5)) (.slice (some ⟨w.heap.size, 0, none⟩) l.length l.length) l := by
  refine ⟨_, l.length, rfl, Nat.le_refl _, by unfold maxLen; omega, by simp, .inr ⟨w.heap.size, 0, rfl, by simp, fun j u hj => ?_⟩⟩
  rw [Nat.zero_add, cell_of_row _ w.heap.size j _ 5 (0, 0) (heap_alloc_new w _)]
  simpa using hj

theorem may_small {es : List Ent} (h : ∀ e ∈ es, e.may = true) (hl : es.length ≤ 1000) : SmallE es :=
  ⟨hl, fun e he => by have := may_kind (h e he); omega⟩
theorem putErr_mk {ns : List UInt8} (sp : Nat) (h : ns ≠ []) (hl : ns.length ≤ 64) : putErr (mkB ns sp) = 0 := by
  have h1 := rising_up (mkB_up ns sp) (mkB_may ns sp)
  have h2 := mkB_ne sp h (by omega)
  have h3 := mkB_len ns sp
  unfold putErr
  rw [if_neg (by rw [h1]; simpa using h2), if_neg (by omega)]
theorem blockL_pos (es : List Ent) : 2 ≤ (blockL es).length := by rw [blockL_len]; omega

theorem blockL_small {es : List Ent} (h : putErr es = 0) : (blockL es).length ≤ 1000000 := by
  obtain ⟨h1, _, h3⟩ := putErr_ok h
  have := bodyN_len (fun k hk => rising_may h1 hk) es.length (Nat.le_refl _)
  rw [blockL_len]
  omega

theorem mk_fits (ns : List UInt8) (sp : Nat) : ∀ e ∈ mkB ns sp, e.fits := fun e he => Ent.may_fits (mkB_may ns sp e he)

set_option maxRecDepth 100000 in
set_option maxHeartbeats 1000000 in
theorem awake12_any (HP : PutC) (w : World) : Calls Try.prog 8 #[] w fun e w' => e = .returned (.bool true) ∧ Below w.heap.size w w' := by
  have HP1 : Hid (∀ w, Calls Try.prog 9 #[.slice none 0 0] w fun e w' => ∃ x, e = .returned (.tuple #[x, .int .i64 1]) ∧ Below w.heap.size w w') := Lib.hid fun w => by
    refine (HP (.slice none 0 0) [] w (⟨rd_of_own (World.ownsRow_nil w 0 36 4), fun e h => by cases h⟩) ⟨by simp, fun e h => by cases h⟩).mono ?_
    rintro e w' ⟨x, rfl, _, h⟩
    exact ⟨x, rfl, h⟩
  have HE0 := Lib.hid (putErr_mk (ns := [1, 2, 3]) 0 (by simp) (by simp))
  have HMK := Lib.hid (fun v w hv => make12_any v [1, 2, 3] 0 (by omega) w hv (by simp))
  have HSM := Lib.hid (may_small (mkB_may [1, 2, 3] 0) (by have := mkB_len [1, 2, 3] 0; simp at this; omega))
  have HFT := Lib.hid (mk_fits [1, 2, 3] 0)
  generalize mkB [1, 2, 3] 0 = L at *
  have HP2 : Hid (∀ v w, OwnE w 0 v L → Calls Try.prog 9 #[v] w fun e w' => ∃ a c, e = .returned (.tuple #[.slice a (blockL L).length c, .int .i64 0]) ∧ Below w.heap.size w w') := Lib.hid fun v w ho => by
    refine (HP v L w (ho.read HFT.out) HSM.out).mono ?_
    rintro e w' ⟨x, rfl, ho, h⟩
    rw [HE0.out, if_pos rfl] at ho
    obtain ⟨a, c, rfl, _, _⟩ := ho.read.form
    exact ⟨a, c, by rw [HE0.out], h⟩
  have hbl := blockL_pos L
  obtain ⟨bl, hbe⟩ : ∃ bl, (blockL L).length = bl := ⟨_, rfl⟩
  rw [hbe] at HP2 hbl
  have hgt : decide (0 < bl) = true := by simp; omega
  clear hbe hbl
  go_enter Try.func8, Try.ntmps8
  go_wp2_with (first | (go_at_call 9; first | ((with_reducible refine (HP1.out _).mono ?_); rintro e w1 ⟨x1, rfl, hb1⟩) | ((refine (HP2.out _ _ HO3.out).mono ?_); rintro e w4 ⟨a4, c4, rfl, hb4⟩)) | (go_at_call 17; (refine (HMK.out _ _ (rdB_row w1 [1, 2, 3] (by simp))).mono ?_); rintro e w3 ⟨x3, rfl, ho3, hb3⟩; have HO3 := Lib.hid (own_base (B' := 0) ho3 fun _ _ => Nat.zero_le _)) | (go_at_call 15; (refine (num12_any _ _).mono ?_); rintro e w5 ⟨rfl, rfl⟩))
  go_ret
  exact ⟨rfl, belowT (belowT (belowT hb1 ((Below.refl _ _).alloc (Nat.le_refl _) _)) hb3) hb4⟩
end Go.Proofs.Ytdcjfgbngmdkfaa

/-
  The walk of BlockTurned.
-/
namespace Go.Proofs.Ytdcjfgbngmdkfaa
open Go.RowKit

theorem get_no (HG : GetC) {b : List UInt8} (h : getB b = none) (hl : b.length ≤ 1000000) (v : Value) (w : World) (hv : RdB w v b) :
    Calls Try.prog 11 #[v] w fun e w' => ∃ x, e = .returned (.tuple #[x, .bool false]) ∧ OwnE w' 0 x [] ∧ Below w.heap.size w w' := by
  refine (HG v b w hv hl).mono ?_
  rintro e w' ⟨x, rfl, ho, hb⟩
  rw [h] at ho
  exact ⟨x, by rw [h]; rfl, own_base ho fun _ _ => Nat.zero_le _, hb⟩
theorem get_yes (HG : GetC) {b : List UInt8} {es : List Ent} (h : getB b = some es) (hl : b.length ≤ 1000000) (v : Value) (w : World) (hv : RdB w v b) :
    Calls Try.prog 11 #[v] w fun e w' => ∃ x, e = .returned (.tuple #[x, .bool true]) ∧ OwnE w' 0 x es ∧ Below w.heap.size w w' := by
  refine (HG v b w hv hl).mono ?_
  rintro e w' ⟨x, rfl, ho, hb⟩
  rw [h] at ho
  exact ⟨x, by rw [h]; rfl, own_base ho fun _ _ => Nat.zero_le _, hb⟩
theorem put_none (HP : PutC) (v : Value) (w : World) (ho : OwnE w 0 v []) :
    Calls Try.prog 9 #[v] w fun e w' => ∃ x, e = .returned (.tuple #[x, .int .i64 1]) ∧ RdB w' x [] ∧ Below w.heap.size w w' := by
  refine (HP v [] w (ho.read fun e h => by cases h) ⟨by simp, fun e h => by cases h⟩).mono ?_
  rintro e w' ⟨x, rfl, ho, hb⟩
  exact ⟨x, rfl, ho.read, hb⟩
theorem put_again (HP : PutC) {b : List UInt8} {es : List Ent} (h : getB b = some es) (v : Value) (w : World) (ho : OwnE w 0 v es) :
    Calls Try.prog 9 #[v] w fun e w' => ∃ x, e = .returned (.tuple #[x, .int .i64 0]) ∧ RdB w' x b ∧ Below w.heap.size w w' := by
  obtain ⟨h0, hb⟩ := getB_is h
  have hm := rising_all (putErr_ok h0).1
  refine (HP v es w (ho.read fun e he => Ent.may_fits (hm e he)) (may_small hm (by have := (putErr_ok h0).2.2; omega))).mono ?_
  rintro e w' ⟨x, rfl, ho, hb'⟩
  rw [h0, if_pos rfl, hb] at ho
  exact ⟨x, by rw [h0], ho.read, hb'⟩

set_option maxRecDepth 100000 in
theorem mustGet_any (HG : GetC) {b : List UInt8} {es : List Ent} (h : getB b = some es) (hl : b.length ≤ 1000000) (v : Value) (w : World) (hv : RdB w v b) :
    Calls Try.prog 19 #[v] w fun e w' => ∃ x, e = .returned x ∧ OwnE w' 0 x es ∧ Below w.heap.size w w' := by
  have HC := Lib.hid (get_yes HG h hl v w hv)
  clear hv
  go_enter Try.func19, Try.ntmps19
  go_wp2_with (go_at_call 11; (refine HC.out.mono ?_); rintro e w1 ⟨x, rfl, ho, hb⟩)
  go_ret
  exact ⟨_, rfl, ho, hb⟩

set_option maxRecDepth 100000 in
set_option maxHeartbeats 600000 in
theorem blockTurned_walkC (HP : PutC) (HG : GetC) (v0 : Value) (ns : List UInt8) (a1 : Int) (v2 : Value) (more : List UInt8) (v3 : Value) (raw : List UInt8) (W : World) (w0 : RdB W v0 ns) (wa1 : (Lit.int .u16 a1).wf = true) (w2 : RdB W v2 more) (w3 : RdB W v3 raw) :
    Calls Try.prog 5 #[v0, .int .u16 a1, v2, v3] W fun r w' => r = .returned (.bool true) ∧ Below W.heap.size W w' := by
  have HAW := Lib.hid (awake12_any HP)
  have n1 : 0 ≤ a1 ∧ a1 ≤ 65535 := by
    simp only [Lit.wf, IntKind.min, IntKind.max, IntKind.signed, IntKind.bits] at wa1
    simpa using wa1
  obtain ⟨cut, rfl⟩ : ∃ n : Nat, a1 = (n : Int) := ⟨a1.toNat, by omega⟩
  clear wa1
  obtain ⟨va, vc, rfl, hc1, hc2⟩ := w0.form
  obtain ⟨ma, mc, rfl, hm1, hm2⟩ := w2.form
  obtain ⟨ra, rc, rfl, hr1, hr2⟩ := w3.form
  unfold maxLen at hc2 hm2 hr2
  have HV0 := Lib.hid w0
  have R3 : Hid (∀ wz, Below W.heap.size W wz → RdB wz (.slice ra raw.length rc) raw) := Lib.hid fun wz hz => w3.below hz (Nat.le_refl _)
  clear w0 w2 w3
  by_cases c0 : ns.length = 0
  · have d0 : ((ns.length : Int) == 0) = true := by rw [c0]; rfl
    clear c0
    go_enter Try.func5, Try.ntmps5
    go_wp2_with (go_at_call 8; (refine (HAW.out _).mono ?_); rintro e w9 ⟨rfl, hb9⟩)
    go_ret
    exact ⟨rfl, hb9⟩
  · have d0 : ((ns.length : Int) == 0) = false := by
      have : (ns.length : Int) ≠ 0 := by omega
      simpa using this
    by_cases c1 : 64 < ns.length
    · have d1 : decide ((64 : Int) < (ns.length : Int)) = true := by simp; omega
      clear c0
      go_enter Try.func5, Try.ntmps5
      go_wp2_with (go_at_call 8; (refine (HAW.out _).mono ?_); rintro e w9 ⟨rfl, hb9⟩)
      go_ret
      exact ⟨rfl, hb9⟩
    · have d1 : decide ((64 : Int) < (ns.length : Int)) = false := by simp; omega
      by_cases c2 : more.length = 0
      · have d2 : ((more.length : Int) == 0) = true := by rw [c2]; rfl
        clear c0 c2
        go_enter Try.func5, Try.ntmps5
        go_wp2_with (go_at_call 8; (refine (HAW.out _).mono ?_); rintro e w9 ⟨rfl, hb9⟩)
        go_ret
        exact ⟨rfl, hb9⟩
      · have d2 : ((more.length : Int) == 0) = false := by
          have : (more.length : Int) ≠ 0 := by omega
          simpa using this
        by_cases c3 : 50 < more.length
        · have d3 : decide ((50 : Int) < (more.length : Int)) = true := by simp; omega
          clear c0 c2
          go_enter Try.func5, Try.ntmps5
          go_wp2_with (go_at_call 8; (refine (HAW.out _).mono ?_); rintro e w9 ⟨rfl, hb9⟩)
          go_ret
          exact ⟨rfl, hb9⟩
        · have d3 : decide ((50 : Int) < (more.length : Int)) = false := by simp; omega
          by_cases c4 : 2000 < raw.length
          · have d4 : decide ((2000 : Int) < (raw.length : Int)) = true := by simp; omega
            clear c0 c2
            go_enter Try.func5, Try.ntmps5
            go_wp2_with (go_at_call 8; (refine (HAW.out _).mono ?_); rintro e w9 ⟨rfl, hb9⟩)
            go_ret
            exact ⟨rfl, hb9⟩
          · have d4 : decide ((2000 : Int) < (raw.length : Int)) = false := by simp; omega
            have hne : ns ≠ [] := fun h => c0 (by rw [h]; rfl)
            have HRL := Lib.hid (show raw.length ≤ 1000000 by omega)
            have HMK : Hid (Calls Try.prog 17 #[.slice va ns.length vc, .int .u8 5] W (RetMk W (mkB ns 5))) := Lib.hid (make12_any _ ns 5 (by omega) W HV0.out (by omega))
            have HPE := Lib.hid (putErr_mk 5 hne (by omega))
            have HFT := Lib.hid (mk_fits ns 5)
            have HSM := Lib.hid (may_small (mkB_may ns 5) (by have := mkB_len ns 5; omega))
            generalize mkB ns 5 = L at *
            clear c0 c1 c2 c3 c4 hne HV0
            have HBS := blockL_small HPE.out
            have hBp := blockL_pos L
            obtain ⟨BL, hBL⟩ : ∃ BL, blockL L = BL := ⟨_, rfl⟩
            rw [hBL] at HBS hBp
            have HPU : Hid (∀ v w, OwnE w 0 v L → Calls Try.prog 9 #[v] w fun e w' => ∃ g c, e = .returned (.tuple #[.slice (some ⟨g, 0, none⟩) BL.length c, .int .i64 0]) ∧ RdB w' (.slice (some ⟨g, 0, none⟩) BL.length c) BL ∧ Below w.heap.size w w') := Lib.hid fun v w ho => by
              refine (HP v L w (ho.read HFT.out) HSM.out).mono ?_
              rintro e w' ⟨x, rfl, ho, h⟩
              rw [HPE.out, if_pos rfl, hBL] at ho
              obtain ⟨g, c, _, rfl, _⟩ := own_form ho (by omega)
              exact ⟨g, c, by rw [HPE.out], ho.read, h⟩
            clear hBL HPE HFT HSM
            obtain ⟨j, hj⟩ : ∃ j, cut % BL.length = j := ⟨_, rfl⟩
            have hjl : j < BL.length := by rw [← hj]; exact Nat.mod_lt _ (by omega)
            have b1 : (cut : Int).tmod (BL.length : Int) = (j : Int) := by rw [Int.tmod_eq_emod_of_nonneg (by omega), ← hj]; simp
            have b2 : (cut : Int) % (BL.length : Int) = (j : Int) := by rw [← hj]; simp
            have b3 : ¬ (BL.length : Int) = 0 := by omega
            have b4 : ((BL.length : Int) == 0) = false := by simpa using b3
            have b5 : (j : Int) ≤ (BL.length : Int) := by omega
            clear hj
            obtain ⟨P, hP⟩ : ∃ P, BL.take j = P := ⟨_, rfl⟩
            have hPl : P.length = j := by rw [← hP, List.length_take]; omega
            have HPL := Lib.hid (show P.length ≤ 1000000 by omega)
            have HSB : Hid (∀ g c w, RdB w (.slice (some ⟨g, 0, none⟩) BL.length c) BL → RdB w (.slice (some ⟨g, 0, none⟩) j c) P) := Lib.hid fun g c w h => by
              have h := sub_rd h 0 j (by omega) (by omega)
              rw [List.drop_zero, hP] at h
              unfold RdB
              rw [hPl]
              simpa [Addr.add] using h
            clear hP hPl
            rcases hgp : getB P with _ | PS
            · have HGP : Hid (∀ v w, RdB w v P → Calls Try.prog 11 #[v] w fun e w' => ∃ x, e = .returned (.tuple #[x, .bool false]) ∧ OwnE w' 0 x [] ∧ Below w.heap.size w w') := Lib.hid (get_no HG hgp HPL.out)
              clear hgp
              go_enter Try.func5, Try.ntmps5
              go_wp2_with (first | (go_at_call 17; (refine HMK.out.mono ?_); rintro e w1 ⟨x1, rfl, ho1, hb1⟩; have HO1 := Lib.hid (show OwnE w1 0 x1 L from own_base ho1 fun _ _ => Nat.zero_le _); have HB1 : Hid (Below W.heap.size W w1) := Lib.hid hb1; clear ho1 hb1) | (go_at_call 9; (with_reducible refine (HPU.out _ _ HO1.out).mono ?_); rintro e w2 ⟨g2, c2, rfl, ho2, hb2⟩; obtain ⟨_, _, hv2, hcc2, _⟩ := ho2.form; cases hv2; have HO2 := Lib.hid ho2; have HB2 := Lib.hid (belowT HB1.out hb2); clear ho2 hb2) | (go_at_call 11; have hr := HSB.out _ _ _ HO2.out; (with_reducible refine (HGP.out _ _ hr).mono ?_); clear hr; rintro e w3 ⟨x3, rfl, ho3, hb3⟩; have HB3 := Lib.hid (belowT HB2.out hb3); have HC3 := Lib.hid hb3; clear ho3 hb3))
              rcases hgr : getB raw with _ | GL
              · have HGR : Hid (∀ v w, RdB w v raw → Calls Try.prog 11 #[v] w fun e w' => ∃ x, e = .returned (.tuple #[x, .bool false]) ∧ OwnE w' 0 x [] ∧ Below w.heap.size w w') := Lib.hid (get_no HG hgr HRL.out)
                have HP3 : Hid (∀ v w, OwnE w 0 v [] → Calls Try.prog 9 #[v] w fun e w' => ∃ x, e = .returned (.tuple #[x, .int .i64 1]) ∧ RdB w' x [] ∧ Below w.heap.size w w') := Lib.hid (put_none HP)
                clear hgr
                go_wp2_with (first | (go_at_call 8; (refine (HAW.out _).mono ?_); rintro e w9 ⟨rfl, hb9⟩) | (go_at_call 11; (refine (HGR.out _ _ (R3.out _ (HB3.out))).mono ?_); rintro e w6 ⟨x6, rfl, ho6, hb6⟩; obtain ⟨l6, c6, rfl, _, _⟩ := ho6.form; have HO6 := Lib.hid ho6; have HB6 := Lib.hid (belowT HB3.out hb6); clear ho6 hb6) | (go_at_call 9; (refine (HP3.out _ _ HO6.out).mono ?_); rintro e w7 ⟨x7, rfl, ho7, hb7⟩; have HB7 := Lib.hid (belowT HB6.out hb7); clear ho7 hb7))
                go_ret
                exact ⟨rfl, belowT HB7.out hb9⟩
              · have HGR : Hid (∀ v w, RdB w v raw → Calls Try.prog 11 #[v] w fun e w' => ∃ x, e = .returned (.tuple #[x, .bool true]) ∧ OwnE w' 0 x GL ∧ Below w.heap.size w w') := Lib.hid (get_yes HG hgr HRL.out)
                have HP3 : Hid (∀ v w, OwnE w 0 v GL → Calls Try.prog 9 #[v] w fun e w' => ∃ x, e = .returned (.tuple #[x, .int .i64 0]) ∧ RdB w' x raw ∧ Below w.heap.size w w') := Lib.hid (put_again HP hgr)
                clear hgr
                go_wp2_with (first | (go_at_call 8; (refine (HAW.out _).mono ?_); rintro e w9 ⟨rfl, hb9⟩) | (go_at_call 11; (refine (HGR.out _ _ (R3.out _ (HB3.out))).mono ?_); rintro e w6 ⟨x6, rfl, ho6, hb6⟩; obtain ⟨l6, c6, rfl, _, _⟩ := ho6.form; have HO6 := Lib.hid ho6; have HB6 := Lib.hid (belowT HB3.out hb6); clear ho6 hb6) | (go_at_call 9; (refine (HP3.out _ _ HO6.out).mono ?_); rintro e w7 ⟨x7, rfl, ho7, hb7⟩; have HB7 := Lib.hid (belowT HB6.out hb7); have q1 := rdB_convert (P := Try.prog) ho7 23 5 9 Try.underlying23 Try.underlying5 Try.underlying9; have q2 := rdB_convert (P := Try.prog) (R3.out _ HB7.out) 23 5 9 Try.underlying23 Try.underlying5 Try.underlying9; clear ho7 hb7))
                go_ret
                exact ⟨rfl, belowT HB7.out hb9⟩
            · have HGP : Hid (∀ v w, RdB w v P → Calls Try.prog 11 #[v] w fun e w' => ∃ x, e = .returned (.tuple #[x, .bool true]) ∧ OwnE w' 0 x PS ∧ Below w.heap.size w w') := Lib.hid (get_yes HG hgp HPL.out)
              have HMG : Hid (∀ v w, RdB w v P → Calls Try.prog 19 #[v] w fun e w' => ∃ x, e = .returned x ∧ OwnE w' 0 x PS ∧ Below w.heap.size w w') := Lib.hid (mustGet_any HG hgp HPL.out)
              have HP2 : Hid (∀ v w, OwnE w 0 v PS → Calls Try.prog 9 #[v] w fun e w' => ∃ x, e = .returned (.tuple #[x, .int .i64 0]) ∧ RdB w' x P ∧ Below w.heap.size w w') := Lib.hid (put_again HP hgp)
              clear hgp
              go_enter Try.func5, Try.ntmps5
              go_wp2_with (first | (go_at_call 17; (refine HMK.out.mono ?_); rintro e w1 ⟨x1, rfl, ho1, hb1⟩; have HO1 := Lib.hid (show OwnE w1 0 x1 L from own_base ho1 fun _ _ => Nat.zero_le _); have HB1 : Hid (Below W.heap.size W w1) := Lib.hid hb1; clear ho1 hb1) | (go_at_call 9; (with_reducible refine (HPU.out _ _ HO1.out).mono ?_); rintro e w2 ⟨g2, c2, rfl, ho2, hb2⟩; obtain ⟨_, _, hv2, hcc2, _⟩ := ho2.form; cases hv2; have HO2 := Lib.hid ho2; have HB2 := Lib.hid (belowT HB1.out hb2); clear ho2 hb2) | (go_at_call 11; have hr := HSB.out _ _ _ HO2.out; (with_reducible refine (HGP.out _ _ hr).mono ?_); clear hr; rintro e w3 ⟨x3, rfl, ho3, hb3⟩; have HB3 := Lib.hid (belowT HB2.out hb3); have HC3 := Lib.hid hb3; clear ho3 hb3) | (go_at_call 19; have hr := (HSB.out _ _ _ HO2.out).below HC3.out (Nat.le_refl _); (with_reducible refine (HMG.out _ _ hr).mono ?_); clear hr; rintro e w4 ⟨x4, rfl, ho4, hb4⟩; have HO4 := Lib.hid ho4; have HC4 := Lib.hid (belowT HC3.out hb4); clear ho4 hb4) | (go_at_call 9; (with_reducible refine (HP2.out _ _ HO4.out).mono ?_); rintro e w5 ⟨x5, rfl, ho5, hb5⟩; have HO5 := Lib.hid (RdB.below ho5 (Below.refl _ w5).drew (Nat.le_refl _)); have HR5 := Lib.hid (RdB.below ((HSB.out _ _ _ HO2.out).below (belowT HC4.out hb5) (Nat.le_refl _)) (Below.refl _ w5).drew (Nat.le_refl _)); have HB5 := Lib.hid (belowT HB2.out (belowT HC4.out hb5)); clear ho5 hb5))
              refine wp_region_plan [(true, 0), (false, 1), (true, 2), (true, 3), (true, 4), (true, 5), (true, 6), (true, 7), (true, 8), (true, 9), (true, 10), (true, 11), (true, 12), (true, 13), (true, 14), (true, 15)] (by kernel_rfl) (by kernel_rfl) (by kernel_rfl) (by kernel_rfl) (by kernel_rfl) ?_
              simp only [planO, List.drop_succ_cons, List.drop_zero]
              refine PlanO.take (v := ?v0) (by kernel_rfl) ?y0 ?r0
              case y0 => (intro wz hz; go_simp; try with_reducible rfl)
              (try simp only [Act.put, List.setIfInBounds_toArray, List.set_cons_zero, List.set_cons_succ])
              refine PlanO.exec (fun K hK => ?_)
              go_simp
              go_at_call 15
              (refine (num12_any _ _).mono ?_)
              rintro e v1 ⟨rfl, rfl⟩
              go_wp2_with fail
              refine hK.out _ _ (Below.refl _ _) ?_
              clear hK K
              (try simp only [Act.put, List.setIfInBounds_toArray, List.set_cons_zero, List.set_cons_succ])
              refine PlanO.take (v := .bool false) (by kernel_rfl) ?y2 ?r2
              case y2 => (intro wz hz; go_simp; try simp)
              (try simp only [Act.put, List.setIfInBounds_toArray, List.set_cons_zero, List.set_cons_succ])
              refine PlanO.take (v := .bool false) (by kernel_rfl) ?y3 ?r3
              case y3 => (intro wz hz; go_simp; try with_reducible rfl)
              (try simp only [Act.put, List.setIfInBounds_toArray, List.set_cons_zero, List.set_cons_succ])
              refine PlanO.take (v := ?v4) (by kernel_rfl) ?y4 ?r4
              case y4 => (intro wz hz; go_simp; try with_reducible rfl)
              (try simp only [Act.put, List.setIfInBounds_toArray, List.set_cons_zero, List.set_cons_succ])
              refine PlanO.take (v := .string (strB P)) (by kernel_rfl) ?y5 ?r5
              case y5 => (intro wz hz; have q1 := rdB_convert (P := Try.prog) (RdB.below HO5.out hz (Nat.le_refl _)) 23 5 9 Try.underlying23 Try.underlying5 Try.underlying9; go_simp; try with_reducible rfl)
              (try simp only [Act.put, List.setIfInBounds_toArray, List.set_cons_zero, List.set_cons_succ])
              refine PlanO.take (v := ?v6) (by kernel_rfl) ?y6 ?r6
              case y6 => (intro wz hz; go_simp; try with_reducible rfl)
              (try simp only [Act.put, List.setIfInBounds_toArray, List.set_cons_zero, List.set_cons_succ])
              refine PlanO.take (v := ?v7) (by kernel_rfl) ?y7 ?r7
              case y7 => (intro wz hz; go_simp; try with_reducible rfl)
              (try simp only [Act.put, List.setIfInBounds_toArray, List.set_cons_zero, List.set_cons_succ])
              refine PlanO.take (v := .int .i64 (cut : Int)) (by kernel_rfl) ?y8 ?r8
              case y8 => (intro wz hz; go_simp; exact IntWalk.i64_in _ (by omega))
              (try simp only [Act.put, List.setIfInBounds_toArray, List.set_cons_zero, List.set_cons_succ])
              refine PlanO.take (v := ?v9) (by kernel_rfl) ?y9 ?r9
              case y9 => (intro wz hz; go_simp; try with_reducible rfl)
              (try simp only [Act.put, List.setIfInBounds_toArray, List.set_cons_zero, List.set_cons_succ])
              refine PlanO.take (v := ?v10) (by kernel_rfl) ?y10 ?r10
              case y10 => (intro wz hz; go_simp; try with_reducible rfl)
              (try simp only [Act.put, List.setIfInBounds_toArray, List.set_cons_zero, List.set_cons_succ])
              refine PlanO.take (v := .int .i64 (j : Int)) (by kernel_rfl) ?y11 ?r11
              case y11 => (intro wz hz; go_simp; (intro hB; rw [hB] at hjl; simp at hjl))
              (try simp only [Act.put, List.setIfInBounds_toArray, List.set_cons_zero, List.set_cons_succ])
              refine PlanO.take (v := .slice (some ⟨g2, 0, none⟩) j c2) (by kernel_rfl) ?y12 ?r12
              case y12 => (intro wz hz; go_simp; (intro hkc; omega))
              (try simp only [Act.put, List.setIfInBounds_toArray, List.set_cons_zero, List.set_cons_succ])
              refine PlanO.take (v := .string (strB P)) (by kernel_rfl) ?y13 ?r13
              case y13 => (intro wz hz; have q2 := rdB_convert (P := Try.prog) (RdB.below HR5.out hz (Nat.le_refl _)) 23 5 9 Try.underlying23 Try.underlying5 Try.underlying9; go_simp; try with_reducible rfl)
              (try simp only [Act.put, List.setIfInBounds_toArray, List.set_cons_zero, List.set_cons_succ])
              refine PlanO.take (v := .bool false) (by kernel_rfl) ?y14 ?r14
              case y14 => (intro wz hz; go_simp; try simp)
              (try simp only [Act.put, List.setIfInBounds_toArray, List.set_cons_zero, List.set_cons_succ])
              refine PlanO.take (v := .bool false) (by kernel_rfl) ?y15 ?r15
              case y15 => (intro wz hz; go_simp; try with_reducible rfl)
              (try simp only [Act.put, List.setIfInBounds_toArray, List.set_cons_zero, List.set_cons_succ])
              refine PlanO.done (NoPanic.normal ?_)
              replace HB5 := Lib.hid HB5.out.drew
              rcases hgr : getB raw with _ | GL
              · have HGR : Hid (∀ v w, RdB w v raw → Calls Try.prog 11 #[v] w fun e w' => ∃ x, e = .returned (.tuple #[x, .bool false]) ∧ OwnE w' 0 x [] ∧ Below w.heap.size w w') := Lib.hid (get_no HG hgr HRL.out)
                have HP3 : Hid (∀ v w, OwnE w 0 v [] → Calls Try.prog 9 #[v] w fun e w' => ∃ x, e = .returned (.tuple #[x, .int .i64 1]) ∧ RdB w' x [] ∧ Below w.heap.size w w') := Lib.hid (put_none HP)
                clear hgr
                go_wp2_with (first | (go_at_call 8; (refine (HAW.out _).mono ?_); rintro e w9 ⟨rfl, hb9⟩) | (go_at_call 11; (refine (HGR.out _ _ (R3.out _ (HB5.out))).mono ?_); rintro e w6 ⟨x6, rfl, ho6, hb6⟩; obtain ⟨l6, c6, rfl, _, _⟩ := ho6.form; have HO6 := Lib.hid ho6; have HB6 := Lib.hid (belowT HB5.out hb6); clear ho6 hb6) | (go_at_call 9; (refine (HP3.out _ _ HO6.out).mono ?_); rintro e w7 ⟨x7, rfl, ho7, hb7⟩; have HB7 := Lib.hid (belowT HB6.out hb7); clear ho7 hb7))
                go_ret
                exact ⟨rfl, belowT HB7.out hb9⟩
              · have HGR : Hid (∀ v w, RdB w v raw → Calls Try.prog 11 #[v] w fun e w' => ∃ x, e = .returned (.tuple #[x, .bool true]) ∧ OwnE w' 0 x GL ∧ Below w.heap.size w w') := Lib.hid (get_yes HG hgr HRL.out)
                have HP3 : Hid (∀ v w, OwnE w 0 v GL → Calls Try.prog 9 #[v] w fun e w' => ∃ x, e = .returned (.tuple #[x, .int .i64 0]) ∧ RdB w' x raw ∧ Below w.heap.size w w') := Lib.hid (put_again HP hgr)
                clear hgr
                go_wp2_with (first | (go_at_call 8; (refine (HAW.out _).mono ?_); rintro e w9 ⟨rfl, hb9⟩) | (go_at_call 11; (refine (HGR.out _ _ (R3.out _ (HB5.out))).mono ?_); rintro e w6 ⟨x6, rfl, ho6, hb6⟩; obtain ⟨l6, c6, rfl, _, _⟩ := ho6.form; have HO6 := Lib.hid ho6; have HB6 := Lib.hid (belowT HB5.out hb6); clear ho6 hb6) | (go_at_call 9; (refine (HP3.out _ _ HO6.out).mono ?_); rintro e w7 ⟨x7, rfl, ho7, hb7⟩; have HB7 := Lib.hid (belowT HB6.out hb7); have q1 := rdB_convert (P := Try.prog) ho7 23 5 9 Try.underlying23 Try.underlying5 Try.underlying9; have q2 := rdB_convert (P := Try.prog) (R3.out _ HB7.out) 23 5 9 Try.underlying23 Try.underlying5 Try.underlying9; clear ho7 hb7))
                go_ret
                exact ⟨rfl, belowT HB7.out hb9⟩
end Go.Proofs.Ytdcjfgbngmdkfaa

/-
  The walk of BlockTurned, on what is landed.
-/
namespace Go.Proofs.Ytdcjfgbngmdkfaa
open Go.RowKit

theorem blockTurned_walk (v0 : Value) (ns : List UInt8) (a1 : Int) (v2 : Value) (more : List UInt8) (v3 : Value) (raw : List UInt8) (W : World) (w0 : RdB W v0 ns) (wa1 : (Lit.int .u16 a1).wf = true) (w2 : RdB W v2 more) (w3 : RdB W v3 raw) :
    Calls Try.prog 5 #[v0, .int .u16 a1, v2, v3] W fun r w' => r = .returned (.bool true) ∧ Below W.heap.size W w' :=
  blockTurned_walkC put_any get_any12 v0 ns a1 v2 more v3 raw W w0 wa1 w2 w3
end Go.Proofs.Ytdcjfgbngmdkfaa
