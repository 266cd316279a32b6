import Derived.Test.YtdcjfgbngmdkfaaMemMath
import Derived.Test.YtdcjfgbngmdkfaaKeyGood
import Derived.Test.YtdcjfgbngmdkfaaWords
import Derived.Test.YtdcjfgbngmdkfaaMg05
import Derived.Test.YtdcjfgbngmdkfaaMg02
import Derived.Test.YtdcjfgbngmdkfaaOwnEnt
import Derived.Deep.QuietTactic
import Derived.BigQuiet
import Derived.Test.YtdcjfgbngmdkfaaMg04
import Derived.Test.YtdcjfgbngmdkfaaBase
import Derived.Test.YtdcjfgbngmdkfaaRows
import Derived.ProofKit
import Derived.OpenShut
import Derived.ShutString
import Derived.ChangeOld

/-
  Entries that are taken up one after another: plain facts.
-/
namespace Go.Proofs.Ytdcjfgbngmdkfaa
open Go.RowKit

/-- The entries that are taken up, one after another. -/
def build (xs : List Ent) : List Ent := xs.foldl (fun acc e => addL e acc) []
theorem build_snoc (xs : List Ent) (e : Ent) : build (xs ++ [e]) = addL e (build xs) := by unfold build; rw [List.foldl_append]; rfl
theorem build_take {xs : List Ent} {k : Nat} (hk : k < xs.length) : build (xs.take (k + 1)) = addL (xs.getD k Ent.none_) (build (xs.take k)) := by
  rw [List.take_succ_eq_append_getElem hk, build_snoc]
  simp [List.getD, hk]
theorem build_len (xs : List Ent) : (build xs).length ≤ xs.length := by
  have key : ∀ (ys acc : List Ent), (ys.foldl (fun acc e => addL e acc) acc).length ≤ acc.length + ys.length := by
    intro ys
    induction ys with
    | nil => intro acc; simp
    | cons y r ih =>
      intro acc
      have h1 := ih (addL y acc)
      have h2 := addL_len y acc
      rw [List.foldl_cons, List.length_cons]
      omega
  have := key xs []
  unfold build
  simpa using this

theorem build_up (xs : List Ent) : Up (build xs) := by
  have key : ∀ (ys acc : List Ent), Up acc → Up (ys.foldl (fun acc e => addL e acc) acc) := by
    intro ys
    induction ys with
    | nil => intro acc h; exact h
    | cons y r ih => intro acc h; exact ih _ (addL_up h)
  exact key xs [] List.Pairwise.nil

theorem rising_up {L : List Ent} (hu : Up L) (hm : ∀ x ∈ L, x.may = true) : risingB L = true := by
  refine (rising_yes fun j hj => ?_).symm
  have e1 : L.getD j Ent.none_ = L[j] := by simp [List.getD, hj]
  cases j with
  | zero => exact goodAt_zero e1 (hm _ (List.getElem_mem _))
  | succ j =>
    have e2 : L.getD j Ent.none_ = L[j] := by simp [List.getD, Nat.lt_of_succ_lt hj]
    rw [goodAt_next e1 e2 (hm _ (List.getElem_mem _)), decide_eq_true_eq]
    exact (List.pairwise_iff_getElem.1 hu) j (j + 1) (by omega) hj (by omega)
end Go.Proofs.Ytdcjfgbngmdkfaa

/-
  What the document's Digits does, for numbers that are not below 0.
-/
namespace Go.Proofs.Ytdcjfgbngmdkfaa
open Go.RowKit

/-- A number's decimal digits. -/
def digL (n : Nat) : List UInt8 := if n < 10 then [UInt8.ofNat (48 + n)] else digL (n / 10) ++ [UInt8.ofNat (48 + n % 10)]
termination_by n
decreasing_by omega

theorem digL_low {n : Nat} (h : n < 10) : digL n = [UInt8.ofNat (48 + n)] := by rw [digL, if_pos h]
theorem digL_high {n : Nat} (h : ¬ n < 10) : digL n = digL (n / 10) ++ [UInt8.ofNat (48 + n % 10)] := by rw [digL, if_neg h]

theorem digL_len (n : Nat) : (digL n).length ≤ n + 1 := by
  induction n using Nat.strongRecOn with
  | ind n ih =>
    by_cases h : n < 10
    · rw [digL_low h]; simp
    · rw [digL_high h, List.length_append]
      have := ih (n / 10) (by omega)
      simp only [List.length_cons, List.length_nil]
      omega

theorem strB_app9 (a b : List UInt8) : strB a ++ strB b = strB (a ++ b) := by
  apply ByteArray.ext
  simp

theorem dig_byte {d : Nat} (h : d < 10) : ((UInt8.ofNat (48 + d)).toNat : Int) = 48 + (d : Int) := by
  rw [UInt8.toNat_ofNat']
  omega

/-- The string of one byte that was built. -/
theorem one_byte_run (w : World) (c : UInt8) (n : Int) (hn : n = (c.toNat : Int)) : (convert 23 9 (.slice (some ⟨w.heap.size, 0, none⟩) 1 1)).run Try.prog (w.alloc (.cells #[.int .u8 n] 5)) = .ok (.string (strB [c])) (w.alloc (.cells #[.int .u8 n] 5)) := by
  subst hn
  refine rdB_convert (l := [c]) ⟨_, 1, rfl, Nat.le_refl _, by unfold maxLen; omega, rfl, .inr ⟨w.heap.size, 0, rfl, by simp, fun j u hj => ?_⟩⟩ 23 5 9 Try.underlying23 Try.underlying5 Try.underlying9
  match j, hj with
  | 0, hj => simp at hj; subst hj; go_simp
  | j + 1, hj => simp at hj

set_option maxRecDepth 100000 in
set_option maxHeartbeats 4000000 in
theorem rdigits_any (n : Nat) (hn : n ≤ 1000000) (w : World) : Calls Try.prog 18 #[.int .i64 (n : Int)] w fun e w' => e = .returned (.string (strB (digL n))) ∧ Below w.heap.size w w' := by
  have HN := Lib.hid hn
  go_enter Try.func18, Try.ntmps18
  go_wp2
  go_loopw [0, 3] (fun m s wr => ∃ (k : Nat) (r : List UInt8), k ≤ n ∧ m = .int .i64 k ∧ s = .string (strB r) ∧ Hid (digL n = digL k ++ r) ∧ r.length + k ≤ n ∧ Hid (Below w.heap.size w wr)) (fun m _ _ => (intOf m).toNat)
  case atStart => exact ⟨n, [], Nat.le_refl _, rfl, rfl, Lib.hid (by simp), by simp, Lib.hid (Below.refl _ _)⟩
  case round =>
    obtain ⟨k, r, hk, rfl, rfl, HD, hr, HB⟩ := hrel
    obtain ⟨d, hd⟩ : ∃ d, k % 10 = d := ⟨_, rfl⟩
    by_cases h10 : k < 10
    · have g1 : ¬ (10 : Int) ≤ (k : Int) := by omega
      have w1 : IntKind.i64.wrap (48 + (k : Int)) = 48 + (k : Int) := IntWalk.i64_in _ (by omega)
      have hc := one_byte_run wr (UInt8.ofNat (48 + k)) (48 + (k : Int)) (dig_byte h10).symm
      have hT := strB_app9 [UInt8.ofNat (48 + k)] r
      have hlim : ¬ 9223372036854775807 < 1 + r.length := by omega
      have HR : Hid (digL n = [UInt8.ofNat (48 + k)] ++ r) := Lib.hid (by rw [HD.out, digL_low h10])
      clear hd HD
      generalize UInt8.ofNat (48 + k) = c at *
      have HT := Lib.hid hT
      clear hT
      go_wp2
      go_ret
      exact ⟨by rw [HR.out, ← HT.out]; rfl, HB.out.alloc HB.out.size _⟩
    · have hd10 : d < 10 := by omega
      have g1 : (10 : Int) ≤ (k : Int) := by omega
      have m1 : (k : Int).tmod 10 = (d : Int) := by rw [Int.tmod_eq_emod_of_nonneg (by omega)]; omega
      obtain ⟨q, hq⟩ : ∃ q, k / 10 = q := ⟨_, rfl⟩
      have m2 : (k : Int).tdiv 10 = (q : Int) := by rw [Int.tdiv_eq_ediv_of_nonneg (by omega)]; omega
      have w1 : IntKind.i64.wrap (48 + (d : Int)) = 48 + (d : Int) := IntWalk.i64_in _ (by omega)
      have w2 : IntKind.i64.wrap (d : Int) = (d : Int) := IntWalk.i64_in _ (by omega)
      have w3 : IntKind.i64.wrap (q : Int) = (q : Int) := IntWalk.i64_in _ (by omega)
      have hc := one_byte_run wr (UInt8.ofNat (48 + d)) (48 + (d : Int)) (dig_byte hd10).symm
      have hT := strB_app9 [UInt8.ofNat (48 + d)] r
      have hlim : ¬ 9223372036854775807 < 1 + r.length := by omega
      have HR : Hid (digL n = digL q ++ ([UInt8.ofNat (48 + d)] ++ r)) := Lib.hid (by rw [HD.out, digL_high h10, hq, hd, List.append_assoc])
      have HQ : Hid (q < k ∧ r.length + 1 + q ≤ n ∧ q ≤ n) := Lib.hid (by omega)
      clear hd HD hq
      generalize UInt8.ofNat (48 + d) = c at *
      go_wp2
      go_roundw
      case rel => exact ⟨q, [c] ++ r, by have := HQ.out; omega, rfl, rfl, HR, by have := HQ.out; simp; omega, Lib.hid (HB.out.alloc HB.out.size _)⟩
      case measure => have := HQ.out; simp [intOf]; omega
end Go.Proofs.Ytdcjfgbngmdkfaa

/-
  Chapter 12, the statements' own: entries in order, made by numbers.
-/
namespace Go.Proofs.Ytdcjfgbngmdkfaa
open Go.RowKit

/-- The entry of a number. -/
def keyN (sp n : Nat) : ByteArray := ⟨#[107, 101, 121]⟩ ++ strB (digL (n % (3 + sp % 40)))
def entN (sp n i : Nat) : Ent := if n % 7 = 0 then ⟨keyN sp n, 1 + (i : Int), 2, ⟨#[]⟩⟩ else ⟨keyN sp n, 1 + (i : Int), 1, strB (digL n)⟩
def entsN (ns : List UInt8) (sp : Nat) : List Ent := (List.range ns.length).map fun i => entN sp (ns.getD i 0).toNat i
def mkB (ns : List UInt8) (sp : Nat) : List Ent := build (entsN ns sp)

theorem keyN_len (sp n : Nat) : (keyN sp n).data.toList.length ≤ 64 := by
  unfold keyN
  have h := digL_len (n % (3 + sp % 40))
  have h2 : n % (3 + sp % 40) < 3 + sp % 40 := Nat.mod_lt _ (by omega)
  have : ((⟨#[107, 101, 121]⟩ : ByteArray) ++ strB (digL (n % (3 + sp % 40)))).data.toList.length = 3 + (digL (n % (3 + sp % 40))).length := by simp; omega
  rw [this]
  omega
theorem entN_may (sp n i : Nat) (hn : n ≤ 255) (hi : i ≤ 1000) : (entN sp n i).may = true := by
  have hk := keyN_len sp n
  have hd := digL_len n
  unfold entN
  split
  · unfold Ent.may mayE
    rw [mayB_mk hk (by simp only; omega) (by simp only; omega) (.inr rfl)]
    rfl
  · unfold Ent.may mayE
    rw [mayB_mk hk (by simp only; omega) (by simp only; omega) (.inl rfl)]
    have : (strB (digL n)).data.toList.length ≤ 512 := by
      show (digL n).length ≤ 512
      omega
    simpa using this
theorem entsN_len (ns : List UInt8) (sp : Nat) : (entsN ns sp).length = ns.length := by unfold entsN; simp
theorem entsN_at (ns : List UInt8) (sp : Nat) {k : Nat} (hk : k < ns.length) : (entsN ns sp).getD k Ent.none_ = entN sp (ns.getD k 0).toNat k := by
  unfold entsN
  simp [List.getD, hk]
theorem entsN_may {ns : List UInt8} {sp : Nat} (hl : ns.length ≤ 1000) : ∀ e ∈ entsN ns sp, e.may = true := by
  intro e he
  unfold entsN at he
  obtain ⟨i, hi, rfl⟩ := List.mem_map.1 he
  have := List.mem_range.1 hi
  exact entN_may _ _ _ (by have := (ns.getD i 0).toNat_lt; omega) (by omega)

theorem addL_ge (e : Ent) (l : List Ent) : l.length ≤ (addL e l).length := by
  unfold addL
  cases addB e l
  · exact Nat.le_refl _
  · show l.length ≤ (insE e l).length
    rw [ins_len]
    omega
theorem build_ne {e : Ent} {r : List Ent} (he : e.may = true) : build (e :: r) ≠ [] := by
  have h1 : addL e [] = [e] := by
    unfold addL addB
    rw [he]
    rfl
  have key : ∀ (ys acc : List Ent), acc.length ≤ (ys.foldl (fun acc e => addL e acc) acc).length := by
    intro ys
    induction ys with
    | nil => intro acc; exact Nat.le_refl _
    | cons y r ih => intro acc; exact Nat.le_trans (addL_ge y acc) (ih _)
  have := key r (addL e [])
  rw [h1] at this
  intro h
  unfold build at h
  rw [List.foldl_cons, h1] at h
  rw [h] at this
  simp at this
theorem build_may {xs : List Ent} : ∀ e ∈ build xs, e.may = true := by
  have key : ∀ (ys acc : List Ent), (∀ e ∈ acc, e.may = true) → ∀ e ∈ ys.foldl (fun acc e => addL e acc) acc, e.may = true := by
    intro ys
    induction ys with
    | nil => intro acc h; exact h
    | cons y r ih => intro acc h; exact ih _ (addL_may h)
  exact key xs [] (fun e h => by cases h)

theorem mkB_up (ns : List UInt8) (sp : Nat) : Up (mkB ns sp) := build_up _
theorem mkB_may (ns : List UInt8) (sp : Nat) : ∀ e ∈ mkB ns sp, e.may = true := build_may
theorem mkB_len (ns : List UInt8) (sp : Nat) : (mkB ns sp).length ≤ ns.length := by
  have := build_len (entsN ns sp)
  rw [entsN_len] at this
  exact this
theorem mkB_ne {ns : List UInt8} (sp : Nat) (h : ns ≠ []) (hl : ns.length ≤ 1000) : mkB ns sp ≠ [] := by
  have hl2 := entsN_len ns sp
  have hm := entsN_may (ns := ns) (sp := sp) hl
  have hpos := List.length_pos_iff.2 h
  unfold mkB
  cases hx : entsN ns sp with
  | nil => rw [hx] at hl2; simp at hl2; omega
  | cons e r => exact build_ne (hm e (by rw [hx]; simp))

/-- The document's memory 'q' keeps the entries 'L', in memory of the call's own. -/
structure RM (W w : World) (q : Nat) (L : List Ent) : Prop where
  bel : Below W.heap.size W w
  obj : ∃ G, Ro G w q L ∧ ∀ k, G k → W.heap.size ≤ k
theorem RM.below {W w w' : World} {q : Nat} {L : List Ent} (h : RM W w q L) (hb : Below w.heap.size w w') : RM W w' q L := by
  obtain ⟨G, h1, h2⟩ := h.obj
  exact ⟨h.bel.trans (hb.mono h.bel.size), G, h1.below hb, h2⟩
theorem RM.start (W : World) : RM W (W.alloc (.cells #[.slice none 0 0] 70)) W.heap.size [] := by
  refine ⟨(Below.refl _ _).alloc (Nat.le_refl _) _, fun k => k = W.heap.size, ⟨.slice none 0 0, heap_alloc_new W _, World.ownsRow_nil _ _ _ _, (fun h => by cases h), fun k => ⟨fun h => .inl h, fun h => h.elim id fun h => by cases h⟩, fun e he => by cases he⟩, fun k hk => by omega⟩
theorem rm_add {W w : World} {q : Nat} {L : List Ent} (h : RM W w q L) (e : Ent) (he : e.fits) (hlen : L.length < 100000) :
    Calls Try.prog 39 #[.pointer (some ⟨q, 0, none⟩), .agg #[.string e.u, .int .i64 e.s, .int .i64 e.k, .string e.v]] w fun r w' => r = .returned (.bool (addB e L)) ∧ RM W w' q (addL e L) := by
  obtain ⟨G, h2, h5⟩ := h.obj
  refine (radd_any h2 e he hlen).mono ?_
  rintro r w' ⟨rfl, G', hm, ht, hg⟩
  have hs := h.bel.size
  refine ⟨rfl, h.bel.trans (ht.below h5 hs), G', hm, fun k hG' => ?_⟩
  rcases hg k hG' with h | h
  · exact h5 k h
  · omega
theorem RM.own {W w : World} {q : Nat} {L : List Ent} (h : RM W w q L) : ∃ v, w.heap[q]? = some (.cells #[v] 70 (0, 0)) ∧ OwnE w W.heap.size v L := by
  obtain ⟨G, ⟨v, h1, h2, _, h4, _⟩, h5⟩ := h.obj
  exact ⟨v, h1, own_base h2 fun k hk => h5 k ((h4 k).2 (.inr hk))⟩

/-- What Make tells. -/
def RetMk (w : World) (L : List Ent) (e : Ending) (w' : World) : Prop := ∃ x, e = .returned x ∧ OwnE w' w.heap.size x L ∧ Below w.heap.size w w'

set_option maxRecDepth 100000 in
set_option maxHeartbeats 1000000 in
theorem make12_any (v : Value) (ns : List UInt8) (sp : Nat) (hsp : sp ≤ 255) (w : World) (hv : RdB w v ns) (hl : ns.length ≤ 1000) : Calls Try.prog 17 #[v, .int .u8 (sp : Int)] w (RetMk w (mkB ns sp)) := by
  have HV := Lib.hid hv
  obtain ⟨va, vc, rfl, hc1, hc2⟩ := hv.form
  unfold maxLen at hc2
  clear hv
  obtain ⟨s4, hs4⟩ : ∃ s4, sp % 40 = s4 := ⟨_, rfl⟩
  have a1 : (sp : Int).tmod 40 = (s4 : Int) := by rw [Int.tmod_eq_emod_of_nonneg (by omega)]; omega
  have a2 : (sp : Int) % 40 = (s4 : Int) := by omega
  have a3 : s4 < 40 := by omega
  have HS4 := Lib.hid hs4
  have HL := Lib.hid (entsN_len ns sp)
  have HAT := Lib.hid (fun k (hk : k < ns.length) => entsN_at ns sp hk)
  have HBT := Lib.hid (fun k (hk : k < (entsN ns sp).length) => build_take hk)
  have HBL := Lib.hid (fun k => build_len ((entsN ns sp).take k))
  clear hs4
  go_enter Try.func17, Try.ntmps17
  go_wp2
  go_loopw [6] (fun i wr => ∃ k : Nat, k ≤ ns.length ∧ i = .int .i64 (k : Int) ∧ Hid (RM w wr w.heap.size (build ((entsN ns sp).take k)))) (fun i _ => ns.length - (intOf i).toNat)
  case atStart => exact ⟨0, Nat.zero_le _, rfl, Lib.hid (RM.start w)⟩
  case round =>
    obtain ⟨k, hk, rfl, HR⟩ := hrel
    by_cases hlt : k < ns.length
    · obtain ⟨b, off, cap', hvv, _, _, hbw, hcell⟩ := HV.out.cells (by intro h; subst h; simp at hlt)
      cases hvv
      have z0 := (HR.out.bel.cell (p := ⟨b, off + k, none⟩) hbw).trans (hcell k hlt)
      have HN : Hid (build ((entsN ns sp).take (k + 1)) = addL (entN sp (ns.getD k 0).toNat k) (build ((entsN ns sp).take k))) := Lib.hid (by rw [HBT.out k (by rw [HL.out]; exact hlt), HAT.out k hlt])
      have HF := Lib.hid (Ent.may_fits (entN_may sp (ns.getD k 0).toNat k (by have := (ns.getD k 0).toNat_lt; omega) (by omega)))
      have hnb := byte_le (ns.getD k 0)
      unfold bv at z0
      have HBK := Lib.hid (HBL.out k)
      generalize (ns.getD k 0).toNat = n at *
      generalize build ((entsN ns sp).take k) = Lk at *
      obtain ⟨m, hm⟩ : ∃ m, n % (3 + s4) = m := ⟨_, rfl⟩
      have b1 : (n : Int).tmod (3 + (s4 : Int)) = (m : Int) := by rw [Int.tmod_eq_emod_of_nonneg (by omega), ← hm]; simp
      have b2 : (n : Int) % (3 + (s4 : Int)) = (m : Int) := by rw [← hm]; simp
      have b3 : ¬ (3 : Int) + (s4 : Int) = 0 := by omega
      have HD1 := Lib.hid (rdigits_any m (by have := Nat.mod_lt n (show 0 < 3 + s4 by omega); omega))
      have HD2 := Lib.hid (rdigits_any n (by omega))
      obtain ⟨r7, hr7⟩ : ∃ r7, n % 7 = r7 := ⟨_, rfl⟩
      have d1 : (n : Int).tmod 7 = (r7 : Int) := by rw [Int.tmod_eq_emod_of_nonneg (by omega)]; omega
      have d2 : (n : Int) % 7 = (r7 : Int) := by omega
      have hdl := digL_len m
      have hml := Nat.mod_lt n (show 0 < 3 + s4 by omega)
      have hlim : ¬ 9223372036854775807 < 3 + (digL m).length := by omega
      clear hcell hbw hdl hml
      by_cases hz : r7 = 0
      · have hzb : ((r7 : Int) == 0) = true := by rw [hz]; rfl
        have HE := Lib.hid (show entN sp n k = ⟨⟨#[107, 101, 121]⟩ ++ strB (digL m), 1 + (k : Int), 2, ⟨#[]⟩⟩ by unfold entN keyN; rw [if_pos (hr7.trans hz), HS4.out, hm])
        rw [HE.out] at HN HF
        have HA : Hid (∀ wz, Below wr.heap.size wr wz → Calls Try.prog 39 #[.pointer (some ⟨w.heap.size, 0, none⟩), .agg #[.string (⟨#[107, 101, 121]⟩ ++ strB (digL m)), .int .i64 (1 + (k : Int)), .int .i64 2, .string ⟨#[]⟩]] wz fun r w' => r = .returned (.bool (addB ⟨⟨#[107, 101, 121]⟩ ++ strB (digL m), 1 + (k : Int), 2, ⟨#[]⟩⟩ Lk)) ∧ RM w w' w.heap.size (addL ⟨⟨#[107, 101, 121]⟩ ++ strB (digL m), 1 + (k : Int), 2, ⟨#[]⟩⟩ Lk)) := Lib.hid fun wz hz => rm_add (HR.out.below hz) ⟨⟨#[107, 101, 121]⟩ ++ strB (digL m), 1 + (k : Int), 2, ⟨#[]⟩⟩ HF.out (by have := HBK.out; rw [List.length_take] at this; omega)
        clear hm hr7 hz
        go_wp2_with (first | (go_at_call 18; first | ((with_reducible refine (HD1.out _).mono ?_); rintro e w1 ⟨rfl, hb1⟩) | ((with_reducible refine (HD2.out _).mono ?_); rintro e w2 ⟨rfl, hb2⟩)) | (go_at_call 39; (refine (HA.out _ (belowT (belowT hb1 hb2) ((Below.refl _ _).alloc (Nat.le_refl _) _))).mono ?_); rintro e w3 ⟨rfl, hr3⟩))
        exact ⟨⟨k + 1, hlt, by go_num, Lib.hid (by rw [HN.out]; exact hr3)⟩, by simp [intOf]; omega⟩
      · have hzb : ((r7 : Int) == 0) = false := by have : (r7 : Int) ≠ 0 := (by omega); simpa using this
        have HE := Lib.hid (show entN sp n k = ⟨⟨#[107, 101, 121]⟩ ++ strB (digL m), 1 + (k : Int), 1, (strB (digL n))⟩ by unfold entN keyN; rw [if_neg (fun h => hz (hr7.symm.trans h)), HS4.out, hm])
        rw [HE.out] at HN HF
        have HA : Hid (∀ wz, Below wr.heap.size wr wz → Calls Try.prog 39 #[.pointer (some ⟨w.heap.size, 0, none⟩), .agg #[.string (⟨#[107, 101, 121]⟩ ++ strB (digL m)), .int .i64 (1 + (k : Int)), .int .i64 1, .string (strB (digL n))]] wz fun r w' => r = .returned (.bool (addB ⟨⟨#[107, 101, 121]⟩ ++ strB (digL m), 1 + (k : Int), 1, (strB (digL n))⟩ Lk)) ∧ RM w w' w.heap.size (addL ⟨⟨#[107, 101, 121]⟩ ++ strB (digL m), 1 + (k : Int), 1, (strB (digL n))⟩ Lk)) := Lib.hid fun wz hz => rm_add (HR.out.below hz) ⟨⟨#[107, 101, 121]⟩ ++ strB (digL m), 1 + (k : Int), 1, (strB (digL n))⟩ HF.out (by have := HBK.out; rw [List.length_take] at this; omega)
        clear hm hr7 hz
        go_wp2_with (first | (go_at_call 18; first | ((with_reducible refine (HD1.out _).mono ?_); rintro e w1 ⟨rfl, hb1⟩) | ((with_reducible refine (HD2.out _).mono ?_); rintro e w2 ⟨rfl, hb2⟩)) | (go_at_call 39; (refine (HA.out _ (belowT (belowT hb1 hb2) ((Below.refl _ _).alloc (Nat.le_refl _) _))).mono ?_); rintro e w3 ⟨rfl, hr3⟩))
        exact ⟨⟨k + 1, hlt, by go_num, Lib.hid (by rw [HN.out]; exact hr3)⟩, by simp [intOf]; omega⟩
    · have hke : k = ns.length := by omega
      have HRE := Lib.hid (show RM w wr w.heap.size (mkB ns sp) by
        have h := HR.out
        rw [hke, ← HL.out, List.take_length] at h
        exact h)
      obtain ⟨x, hx1, hx2⟩ := HRE.out.own
      have HX := Lib.hid hx2
      have x0 := blk_cell (i := 0) hx1
      replace x0 : wr.cell? ⟨w.heap.size, 0, none⟩ = some x := x0
      clear hke hx1 hx2
      go_wp2
      go_ret
      exact ⟨_, rfl, HX.out, HRE.out.bel⟩
end Go.Proofs.Ytdcjfgbngmdkfaa

/-
  Chapter 12, the statements' example.
-/
namespace Go.Proofs.Ytdcjfgbngmdkfaa
open Go.RowKit

/-- A row of bytes that was just laid. -/
theorem rdB_row (w : World) (l : List UInt8) (hl : l.length ≤ 1000) : RdB (w.alloc (.cells (l.map bv).toArray 5)) (.slice (some ⟨w.heap.size, 0, none⟩) l.length l.length) l := by
  refine ⟨_, l.length, rfl, Nat.le_refl _, by unfold maxLen; omega, by simp, .inr ⟨w.heap.size, 0, rfl, by simp, fun j u hj => ?_⟩⟩
  rw [Nat.zero_add, cell_of_row _ w.heap.size j _ 5 (0, 0) (heap_alloc_new w _)]
  simpa using hj

theorem may_small {es : List Ent} (h : ∀ e ∈ es, e.may = true) (hl : es.length ≤ 1000) : SmallE es :=
  ⟨hl, fun e he => by have := may_kind (h e he); omega⟩
theorem putErr_mk {ns : List UInt8} (sp : Nat) (h : ns ≠ []) (hl : ns.length ≤ 64) : putErr (mkB ns sp) = 0 := by
  have h1 := rising_up (mkB_up ns sp) (mkB_may ns sp)
  have h2 := mkB_ne sp h (by omega)
  have h3 := mkB_len ns sp
  unfold putErr
  rw [if_neg (by rw [h1]; simpa using h2), if_neg (by omega)]
theorem blockL_pos (es : List Ent) : 2 ≤ (blockL es).length := by rw [blockL_len]; omega

theorem blockL_small {es : List Ent} (h : putErr es = 0) : (blockL es).length ≤ 1000000 := by
  obtain ⟨h1, _, h3⟩ := putErr_ok h
  have := bodyN_len (fun k hk => rising_may h1 hk) es.length (Nat.le_refl _)
  rw [blockL_len]
  omega

theorem mk_fits (ns : List UInt8) (sp : Nat) : ∀ e ∈ mkB ns sp, e.fits := fun e he => Ent.may_fits (mkB_may ns sp e he)

set_option maxRecDepth 100000 in
set_option maxHeartbeats 1000000 in
theorem awake12_any (HP : PutC) (w : World) : Calls Try.prog 8 #[] w fun e w' => e = .returned (.bool true) ∧ Below w.heap.size w w' := by
  have HP1 : Hid (∀ w, Calls Try.prog 9 #[.slice none 0 0] w fun e w' => ∃ x, e = .returned (.tuple #[x, .int .i64 1]) ∧ Below w.heap.size w w') := Lib.hid fun w => by
    refine (HP (.slice none 0 0) [] w (⟨rd_of_own (World.ownsRow_nil w 0 36 4), fun e h => by cases h⟩) ⟨by simp, fun e h => by cases h⟩).mono ?_
    rintro e w' ⟨x, rfl, _, h⟩
    exact ⟨x, rfl, h⟩
  have HE0 := Lib.hid (putErr_mk (ns := [1, 2, 3]) 0 (by simp) (by simp))
  have HMK := Lib.hid (fun v w hv => make12_any v [1, 2, 3] 0 (by omega) w hv (by simp))
  have HSM := Lib.hid (may_small (mkB_may [1, 2, 3] 0) (by have := mkB_len [1, 2, 3] 0; simp at this; omega))
  have HFT := Lib.hid (mk_fits [1, 2, 3] 0)
  generalize mkB [1, 2, 3] 0 = L at *
  have HP2 : Hid (∀ v w, OwnE w 0 v L → Calls Try.prog 9 #[v] w fun e w' => ∃ a c, e = .returned (.tuple #[.slice a (blockL L).length c, .int .i64 0]) ∧ Below w.heap.size w w') := Lib.hid fun v w ho => by
    refine (HP v L w (ho.read HFT.out) HSM.out).mono ?_
    rintro e w' ⟨x, rfl, ho, h⟩
    rw [HE0.out, if_pos rfl] at ho
    obtain ⟨a, c, rfl, _, _⟩ := ho.read.form
    exact ⟨a, c, by rw [HE0.out], h⟩
  have hbl := blockL_pos L
  obtain ⟨bl, hbe⟩ : ∃ bl, (blockL L).length = bl := ⟨_, rfl⟩
  rw [hbe] at HP2 hbl
  have hgt : decide (0 < bl) = true := by simp; omega
  clear hbe hbl
  go_enter Try.func8, Try.ntmps8
  go_wp2_with (first | (go_at_call 9; first | ((with_reducible refine (HP1.out _).mono ?_); rintro e w1 ⟨x1, rfl, hb1⟩) | ((refine (HP2.out _ _ HO3.out).mono ?_); rintro e w4 ⟨a4, c4, rfl, hb4⟩)) | (go_at_call 17; (refine (HMK.out _ _ (rdB_row w1 [1, 2, 3] (by simp))).mono ?_); rintro e w3 ⟨x3, rfl, ho3, hb3⟩; have HO3 := Lib.hid (own_base (B' := 0) ho3 fun _ _ => Nat.zero_le _)) | (go_at_call 15; (refine (num12_any _ _).mono ?_); rintro e w5 ⟨rfl, rfl⟩))
  go_ret
  exact ⟨rfl, belowT (belowT (belowT hb1 ((Below.refl _ _).alloc (Nat.le_refl _) _)) hb3) hb4⟩
end Go.Proofs.Ytdcjfgbngmdkfaa

/-
  SameEntries of one list, told twice.
-/
namespace Go.Proofs.Ytdcjfgbngmdkfaa
open Go.RowKit

set_option maxRecDepth 100000 in
set_option maxHeartbeats 4000000 in
/-- SameEntries of one list, told twice. -/
theorem rsame_ent (va vb : Value) (l : List Ent) (w : World) (hl : l.length < 1000000) (ha : OwnE w 0 va l) (hb : OwnE w 0 vb l) :
    Calls Try.prog 16 #[va, vb] w fun e w' => e = .returned (.bool true) ∧ Below w.heap.size w w' := by
  obtain ⟨aa, ca, rfl, _, _⟩ := ha.form
  obtain ⟨ab, cb, rfl, _, _⟩ := hb.form
  have HA := Lib.hid ha
  have HB := Lib.hid hb
  clear ha hb
  go_enter Try.func16, Try.ntmps16
  go_wp2
  go_loopw [5] (fun i wr => ∃ k : Nat, k ≤ l.length ∧ i = .int .i64 k ∧ Hid (Below w.heap.size w wr)) (fun i _ => l.length - (intOf i).toNat)
  case atStart => exact ⟨0, Nat.zero_le _, rfl, Lib.hid (Below.refl _ _)⟩
  case round =>
    obtain ⟨k, hk, rfl, HBL⟩ := hrel
    by_cases hlt : k < l.length
    · obtain ⟨ba, rfl, hba, c0, c1, c2, c3⟩ := own_ent (HA.out.below HBL.out) hlt
      obtain ⟨bb, rfl, hbb, d0, d1, d2, d3⟩ := own_ent (HB.out.below HBL.out) hlt
      generalize l.getD k Ent.none_ = o at *
      go_wp2
      go_quiet (fail)
      go_wp2
      refine ⟨⟨k + 1, by omega, by go_num, Lib.hid (below_drewN HBL.out _)⟩, ?_⟩
      simp [intOf]; omega
    · go_wp2
      go_ret
      exact ⟨rfl, HBL.out⟩
end Go.Proofs.Ytdcjfgbngmdkfaa

/-
  The walk of BlockAll.
-/
namespace Go.Proofs.Ytdcjfgbngmdkfaa
open Go.RowKit

theorem getB_fits (b : List UInt8) : ∀ e ∈ (getB b).getD [], e.fits := by
  cases h : getB b with
  | none => intro e he; cases he
  | some es => exact fun e he => Ent.may_fits (rising_all (putErr_ok (getB_is h).1).1 e he)
theorem getB_len (b : List UInt8) : ((getB b).getD []).length ≤ 64 := by
  cases h : getB b with
  | none => simp
  | some es => exact (putErr_ok (getB_is h).1).2.2

set_option maxRecDepth 100000 in
set_option maxHeartbeats 2000000 in
theorem blockAll_walkC (HP : PutC) (HG : GetC) (HS : SeekC) (v0 : Value) (es : List Ent) (v1 : Value) (b : List UInt8) (u : ByteArray) (s k : Int) (W : World) (w0 : RdE W v0 es) (w1 : RdB W v1 b) (wu : u.size ≤ maxLen) (ws : (Lit.int .i64 s).wf = true) (wk : (Lit.int .i64 k).wf = true) :
    Calls Try.prog 3 #[v0, v1, .agg #[.string u, .int .i64 s, .int .i64 k]] W fun r w' => r = .returned (.bool true) ∧ Below W.heap.size W w' := by
  have HAW := Lib.hid (awake12_any HP)
  obtain ⟨va, vc, rfl, hc1, hc2⟩ := w0.form
  obtain ⟨xa, xc, rfl, hc3, hc4⟩ := w1.form
  unfold maxLen at hc2 hc4 wu
  have HWS := Lib.hid ws
  have HWK := Lib.hid wk
  have HV0 := Lib.hid w0
  have HV1 := Lib.hid w1
  clear w0 w1 ws wk
  obtain ⟨W0, hW0⟩ : ∃ W0, W0 = W.alloc (.cells #[.string u, .int .i64 s, .int .i64 k] 25) := ⟨_, rfl⟩
  have hE0 : Below W.heap.size W W0 := by rw [hW0]; exact (Below.refl _ _).alloc (Nat.le_refl _) _
  have hbx : W0.heap[W.heap.size]? = some (.cells #[.string u, .int .i64 s, .int .i64 k] 25 (0, 0)) := by rw [hW0]; exact heap_alloc_new W _
  have HW0 := Lib.hid hW0
  have HE := Lib.hid (show ∀ wz : World, Below W0.heap.size W0 wz → Below W.heap.size W wz from fun _ h => belowT hE0 h)
  have R0 : Hid (∀ wz, Below W0.heap.size W0 wz → RdE wz (.slice va es.length vc) es) := Lib.hid fun wz hz => (HV0.out.below hE0 (Nat.le_refl _)).below hz (Nat.le_refl _)
  have R1 : Hid (∀ wz, Below W0.heap.size W0 wz → RdB wz (.slice xa b.length xc) b) := Lib.hid fun wz hz => (HV1.out.below hE0 (Nat.le_refl _)).below hz (Nat.le_refl _)
  have KB : Hid (∀ wz, Below W0.heap.size W0 wz → wz.cell? ⟨W.heap.size, 0, none⟩ = some (.string u) ∧ wz.cell? ⟨W.heap.size, 1, none⟩ = some (.int .i64 s) ∧ wz.cell? ⟨W.heap.size, 2, none⟩ = some (.int .i64 k)) := Lib.hid fun wz hz => by
    have h := (hz.block W.heap.size (blk_lt hbx)).trans hbx
    exact ⟨blk_cell (i := 0) h, blk_cell (i := 1) h, blk_cell (i := 2) h⟩
  obtain ⟨k00, k01, k02⟩ := KB.out W0 (Below.refl _ _)
  have HGR := Lib.hid (great12_any (.slice va es.length vc) es W0 (R0.out W0 (Below.refl _ _)))
  clear hW0 hE0 hbx
  go_enter Try.func3, Try.ntmps3
  go_wp2_with fail
  rw [← HW0.out]
  clear HW0
  by_cases c1 : 80 < es.length
  · have d1 : decide ((80 : Int) < (es.length : Int)) = true := by simp; omega
    go_wp2_with (first | (go_at_call 7; (refine HGR.out.mono ?_); rintro e w1 ⟨⟨g, rfl, hg⟩, rfl⟩; cases g) | (go_at_call 8; (refine (HAW.out _).mono ?_); rintro e w9 ⟨rfl, hb9⟩))
    all_goals
      go_ret
      exact ⟨rfl, HE.out _ hb9⟩
  · have d1 : decide ((80 : Int) < (es.length : Int)) = false := by simp; omega
    by_cases c2 : 3000 < b.length
    · have d2 : decide ((3000 : Int) < (b.length : Int)) = true := by simp; omega
      go_wp2_with (first | (go_at_call 7; (refine HGR.out.mono ?_); rintro e w1 ⟨⟨g, rfl, hg⟩, rfl⟩; cases g) | (go_at_call 8; (refine (HAW.out _).mono ?_); rintro e w9 ⟨rfl, hb9⟩))
      all_goals
        go_ret
        exact ⟨rfl, HE.out _ hb9⟩
    · have d2 : decide ((3000 : Int) < (b.length : Int)) = false := by simp; omega
      by_cases c3 : 300 < u.size
      · have d3 : decide ((300 : Int) < (u.size : Int)) = true := by simp; omega
        go_wp2_with (first | (go_at_call 7; (refine HGR.out.mono ?_); rintro e w1 ⟨⟨g, rfl, hg⟩, rfl⟩; cases g) | (go_at_call 8; (refine (HAW.out _).mono ?_); rintro e w9 ⟨rfl, hb9⟩))
        all_goals
          go_ret
          exact ⟨rfl, HE.out _ hb9⟩
      · have d3 : decide ((300 : Int) < (u.size : Int)) = false := by simp; omega
        have HBL := Lib.hid (show b.length ≤ 1000000 by omega)
        have HU := Lib.hid (show u.size ≤ 1000 by omega)
        clear c1 c2 c3
        obtain ⟨pe, hpe⟩ : ∃ pe, putErr es = pe := ⟨_, rfl⟩
        have HPE := Lib.hid hpe
        obtain ⟨PL, hpl⟩ : ∃ PL, (if putErr es = 0 then blockL es else []) = PL := ⟨_, rfl⟩
        have HPL := Lib.hid hpl
        obtain ⟨GL, hgl⟩ : ∃ GL, (getB b).getD [] = GL := ⟨_, rfl⟩
        have HFT := Lib.hid (show ∀ e ∈ GL, e.fits by rw [← hgl]; exact getB_fits b)
        have HLN := Lib.hid (show GL.length ≤ 64 by rw [← hgl]; exact getB_len b)
        have HGL := Lib.hid hgl
        obtain ⟨go, hgo⟩ : ∃ go, (getB b).isSome = go := ⟨_, rfl⟩
        have HGS := Lib.hid hgo
        obtain ⟨au, as_, ak, av, ab, han⟩ := ansN_form (aboveL GL u s k)
        have HAN := Lib.hid han
        clear hpe hpl hgl hgo han
        go_wp2_with (first | (go_at_call 7; (refine HGR.out.mono ?_); rintro e w1 ⟨⟨g, rfl, hg⟩, rfl⟩; cases g) | (go_at_call 8; (refine (HAW.out _).mono ?_); rintro e w9 ⟨rfl, hb9⟩) | (go_at_call 9; (refine (HP _ es _ (R0.out _ (Below.refl _ _)) (hg (by simp))).mono ?_); rintro e w2 ⟨x2, rfl, ho2, hb2⟩; rw [HPE.out]; rw [HPL.out] at ho2; have HO2 := Lib.hid ho2; have HB2 : Hid (Below W0.heap.size W0 w2) := Lib.hid (hb2); obtain ⟨k20, k21, k22⟩ := KB.out w2 HB2.out; clear ho2 hb2) | (go_at_call 10; (refine (rputblk_any _ es _ (R0.out _ HB2.out)).mono ?_); rintro e w3 ⟨x3, rfl, ho3, hb3⟩; rw [HPE.out]; rw [HPL.out] at ho3; have HO3 := Lib.hid ho3; have HP2 := Lib.hid (HO2.out.below hb3 (Nat.le_refl _)); have HB3 : Hid (Below W0.heap.size W0 w3) := Lib.hid (belowT HB2.out hb3); obtain ⟨k30, k31, k32⟩ := KB.out w3 HB3.out; clear ho3) | (go_at_call 11; (refine (HG _ b _ (R1.out _ HB3.out) HBL.out).mono ?_); rintro e w4 ⟨x4, rfl, ho4, hb4⟩; rw [HGS.out]; rw [HGL.out] at ho4; have HO4 := Lib.hid ho4; have HB4 : Hid (Below W0.heap.size W0 w4) := Lib.hid (belowT HB3.out hb4); obtain ⟨k40, k41, k42⟩ := KB.out w4 HB4.out; have HC4 := Lib.hid hb4; clear ho4 hb4) | (go_at_call 12; (refine (rgetblk_any _ b _ (R1.out _ HB4.out) HBL.out).mono ?_); rintro e w5 ⟨x5, rfl, ho5, hb5⟩; rw [HGS.out]; rw [HGL.out] at ho5; have HO5 := Lib.hid ho5; have HB5 : Hid (Below W0.heap.size W0 w5) := Lib.hid (belowT HB4.out hb5); obtain ⟨k50, k51, k52⟩ := KB.out w5 HB5.out; have HC5 := Lib.hid hb5; clear ho5 hb5) | (go_at_call 13; (refine (HS _ b u s k HU.out HWS.out HWK.out _ (R1.out _ HB5.out) HBL.out).mono ?_); rintro e w6 ⟨rfl, hb6⟩; rw [HGL.out, HAN.out]; have HC6 := Lib.hid (belowT hb6 ((Below.refl _ _).alloc (Nat.le_refl _) (.cells #[.string au, .int .i64 as_, .int .i64 ak, .string av] 36))); have HB6 := Lib.hid (belowT HB5.out HC6.out); obtain ⟨k60, k61, k62⟩ := KB.out _ HB6.out; obtain ⟨k70, k71, k72⟩ := KB.out _ (belowT HB5.out hb6); clear hb6) | (go_at_call 14; (refine (rabove_any ((HO5.out.below HC6.out).read HFT.out) u s k).mono ?_); rintro e w7 ⟨rfl, hb7⟩; rw [HAN.out]; have HC7 := Lib.hid (belowT hb7 ((Below.refl _ _).alloc (Nat.le_refl _) (.cells #[.string au, .int .i64 as_, .int .i64 ak, .string av] 36))); have HB7 := Lib.hid (belowT HB6.out HC7.out); have q1 := rdB_convert (P := Try.prog) ((HP2.out.below (belowT (belowT (belowT HC4.out HC5.out) HC6.out) HC7.out) (Nat.le_refl _)).read) 23 5 9 Try.underlying23 Try.underlying5 Try.underlying9; have q2 := rdB_convert (P := Try.prog) ((HO3.out.below (belowT (belowT (belowT HC4.out HC5.out) HC6.out) HC7.out) (Nat.le_refl _)).read) 23 5 9 Try.underlying23 Try.underlying5 Try.underlying9; clear hb7) | (go_at_call 16; (refine (rsame_ent _ _ GL _ (by have := HLN.out; omega) (own_base (HO4.out.below (belowT (belowT HC5.out HC6.out) HC7.out)) fun _ _ => Nat.zero_le _) (own_base (HO5.out.below (belowT HC6.out HC7.out)) fun _ _ => Nat.zero_le _)).mono ?_); rintro e w8 ⟨rfl, hb8⟩; have p5 := (hb8.block w6.heap.size (by have := HC7.out.size; simp at this ⊢; omega)).trans ((HC7.out.block w6.heap.size (by simp)).trans (heap_alloc_new w6 _)); have p7 := (hb8.block w7.heap.size (by simp)).trans (heap_alloc_new w7 _); have y0 := blk_cell (i := 0) p5; have y1 := blk_cell (i := 1) p5; have y2 := blk_cell (i := 2) p5; have y3 := blk_cell (i := 3) p5; have z0 := blk_cell (i := 0) p7; have z1 := blk_cell (i := 1) p7; have z2 := blk_cell (i := 2) p7; have z3 := blk_cell (i := 3) p7; have HB8 := Lib.hid (belowT HB7.out hb8); clear p5 p7 hb8) | (go_at_call 15; (refine (num12_any _ _).mono ?_); rintro e w10 ⟨rfl, rfl⟩))
        all_goals
          go_ret
          first
          | exact ⟨rfl, HE.out _ hb9⟩
          | exact ⟨rfl, HE.out _ (belowT HB8.out hb9)⟩
end Go.Proofs.Ytdcjfgbngmdkfaa

/-
  The walk of BlockAll, on what is landed.
-/
namespace Go.Proofs.Ytdcjfgbngmdkfaa
open Go.RowKit

theorem blockAll_walk (v0 : Value) (es : List Ent) (v1 : Value) (b : List UInt8) (u : ByteArray) (s k : Int) (W : World) (w0 : RdE W v0 es) (w1 : RdB W v1 b) (wu : u.size ≤ maxLen) (ws : (Lit.int .i64 s).wf = true) (wk : (Lit.int .i64 k).wf = true) :
    Calls Try.prog 3 #[v0, v1, .agg #[.string u, .int .i64 s, .int .i64 k]] W fun r w' => r = .returned (.bool true) ∧ Below W.heap.size W w' :=
  blockAll_walkC put_any get_any12 seek_any12 v0 es v1 b u s k W w0 w1 wu ws wk
end Go.Proofs.Ytdcjfgbngmdkfaa

/-
  How arguments are opened: a slice of bytes that came in reads as a list of bytes; a slice of integers as a list of integers.
-/
namespace Go.Proofs.Ytdcjfgbngmdkfaa
open Go.ChangeShapes Go.WideShapes Go.ChangeAt Go.RowKit

/-- The slice 'v' reads as the integers 'zs' (each of them fits the kind 'k') in world 'w'. -/
def RdI (k : IntKind) (w : World) (v : Value) (zs : List Int) : Prop :=
  ∃ a cap, v = .slice a zs.length cap ∧ zs.length ≤ cap ∧ cap ≤ maxLen ∧ (∀ n ∈ zs, (Lit.int k n).wf = true) ∧
    ((zs = [] ∧ (a = none → cap = 0)) ∨ ∃ b off, a = some ⟨b, off, none⟩ ∧ b < w.heap.size ∧ ∀ i, i < zs.length → w.cell? ⟨b, off + i, none⟩ = some (.int k (zs.getD i 0)))

theorem rdI_open {H : Type} {enc : TypeId × Value → H} {P : Program} {w : World} {k : IntKind} {t e : TypeId} {base : Nat} {m : Nat} {spare : Nat → Bool} {held : Bool} {v : Value} {d : DataW H} {p : List MemPlace} (ht : P.underlying t = some (.slice e)) (he : P.underlying e = some (.int k)) (hc : P.cellsOf e = 1)
    (hok : Value.okWide P w .any base t v) (hd : DataW.Trod enc P w m spare held t v d p) : ∃ zs, RdI k w v zs := by
  obtain ⟨a, len, cap, rfl⟩ := okWide_slice ht hok
  obtain ⟨fuel, hf⟩ := hd
  rcases open_ints ht he hc hf with ⟨hcs, _⟩ | ⟨x, l, c, zs, hcs, _, hl, hm, hz, _, hcell, hwz⟩
  · simp [Value.cells] at hcs
    obtain ⟨rfl, rfl, rfl⟩ := hcs
    exact ⟨[], none, 0, rfl, Nat.le_refl _, Nat.zero_le _, by simp, .inl ⟨rfl, fun _ => rfl⟩⟩
  · simp [Value.cells] at hcs
    obtain ⟨rfl, rfl, rfl⟩ := hcs
    have hz' : len ≤ zs.length := by rw [hz]; split <;> omega
    have hlen : (zs.take len).length = len := by rw [List.length_take]; omega
    refine ⟨zs.take len, some x, cap, by rw [hlen], by rw [hlen]; exact hl, hm, fun n hn => hwz n (List.mem_of_mem_take hn), ?_⟩
    by_cases h0 : len = 0
    · left; subst h0; exact ⟨rfl, fun h => by cases h⟩
    · right
      obtain ⟨b, off, spot⟩ := x
      have hc0 := hcell 0 (by omega)
      have hspot : spot = none := by simpa [Addr.add] using World.cell?_spot hc0
      subst hspot
      refine ⟨b, off, rfl, World.block_lt_of_cell? w _ hc0, fun i hi => ?_⟩
      have hi' : i < len := by omega
      have h1 := hcell i (by omega)
      have hadd : (⟨b, off, none⟩ : Addr).add i = ⟨b, off + i, none⟩ := by unfold Addr.add; split <;> simp_all
      rw [hadd] at h1
      rw [h1]
      simp [List.getD, hi']

theorem RdI.bytes {w : World} {v : Value} {zs : List Int} (h : RdI .u8 w v zs) : ∃ l, RdB w v l := by
  obtain ⟨a, cap, rfl, h1, h2, h3, h4⟩ := h
  have key : ∀ (zs : List Int), (∀ n ∈ zs, (Lit.int .u8 n).wf = true) → ∃ l : List UInt8, l.map (fun c => (c.toNat : Int)) = zs := by
    intro zs
    induction zs with
    | nil => exact fun _ => ⟨[], rfl⟩
    | cons z zs ih =>
      intro h
      obtain ⟨l, hl⟩ := ih fun n hn => h n (List.mem_cons_of_mem _ hn)
      have hz := bounds_u8 (h z (List.mem_cons_self ..))
      refine ⟨UInt8.ofNat z.toNat :: l, ?_⟩
      rw [List.map_cons, hl, UInt8.toNat_ofNat', Nat.mod_eq_of_lt (by omega)]
      congr 1
      omega
  obtain ⟨l, rfl⟩ := key zs h3
  simp only [List.length_map] at h1 h4 ⊢
  refine ⟨l, a, cap, rfl, h1, h2, by simp, ?_⟩
  rcases h4 with ⟨h4, h5⟩ | ⟨b, off, rfl, h5, h6⟩
  · left; exact ⟨by simpa using h4, h5⟩
  · refine .inr ⟨b, off, rfl, h5, fun j u hj => ?_⟩
    have hj' : j < l.length := by
      rcases Nat.lt_or_ge j l.length with h | h
      · exact h
      · simp [List.getElem?_eq_none h] at hj
    rw [h6 j hj']
    simp [hj'] at hj
    simp [List.getD, hj', hj]

theorem rdB_open {H : Type} {enc : TypeId × Value → H} {P : Program} {w : World} {t e : TypeId} {base : Nat} {m : Nat} {spare : Nat → Bool} {held : Bool} {v : Value} {d : DataW H} {p : List MemPlace} (ht : P.underlying t = some (.slice e)) (he : P.underlying e = some (.int .u8)) (hc : P.cellsOf e = 1)
    (hok : Value.okWide P w .any base t v) (hd : DataW.Trod enc P w m spare held t v d p) : ∃ l, RdB w v l :=
  let ⟨_, h⟩ := rdI_open ht he hc hok hd
  h.bytes
end Go.Proofs.Ytdcjfgbngmdkfaa
