import Derived.Test.YtdcjfgbngmdkfaaMemMath
import Derived.Test.YtdcjfgbngmdkfaaKeyGood
import Derived.Test.YtdcjfgbngmdkfaaWords
import Derived.Test.YtdcjfgbngmdkfaaMg05
import Derived.Test.YtdcjfgbngmdkfaaMg02
import Derived.Test.YtdcjfgbngmdkfaaOwnEnt
import Derived.Deep.QuietTactic
import Derived.BigQuiet
import Derived.Test.YtdcjfgbngmdkfaaMg04
import Derived.Test.YtdcjfgbngmdkfaaBase
import Derived.Test.YtdcjfgbngmdkfaaRows
import Derived.ProofKit
import Derived.OpenShut
import Derived.ShutString
import Derived.ChangeOld

/-
  Entries that are taken up one after another: plain facts.
-/
namespace Go.Proofs.Ytdcjfgbngmdkfaa
open Go.RowKit

/-- The entries that are taken up, one after another. -/
def build (xs : List Ent) : List Ent := xs.foldl (fun acc e => addL e acc) []
theorem build_snoc (xs : List Ent) (e : Ent) : build (xs ++ [e]) = addL e (build xs) := by unfold build; rw [List.foldl_append]; rfl
theorem build_take {xs : List Ent} {k : Nat} (hk : k < xs.length) : build (xs.take (k + 1)) = addL (xs.getD k Ent.none_) (build (xs.take k)) := by
  rw [List.take_succ_eq_append_getElem hk, build_snoc]
  simp [List.getD, hk]
theorem build_len (xs : List Ent) : (build xs).length ≤ xs.length := by
  have key : ∀ (ys acc : List Ent), (ys.foldl (fun acc e => addL e acc) acc).length ≤ acc.length + ys.length := by
    intro ys
    induction ys with
    | nil => intro acc; simp
    | cons y r ih =>
      intro acc
      have h1 := ih (addL y acc)
      have h2 := addL_len y acc
      rw [List.foldl_cons, List.length_cons]
      omega
  have := key xs []
  unfold build
  simpa using this

theorem build_up (xs : List Ent) : Up (build xs) := by
  have key : ∀ (ys acc : List Ent), Up acc → Up (ys.foldl (fun acc e => addL e acc) acc) := by
    intro ys
    induction ys with
    | nil => intro acc h; exact h
    | cons y r ih => intro acc h; exact ih _ (addL_up h)
  exact key xs [] List.Pairwise.nil

theorem rising_up {L : List Ent} (hu : Up L) (hm : ∀ x ∈ L, x.may = true) : risingB L = true := by
  refine (rising_yes fun j hj => ?_).symm
  have e1 : L.getD j Ent.none_ = L[j] := by simp [List.getD, hj]
  cases j with
  | zero => exact goodAt_zero e1 (hm _ (List.getElem_mem _))
  | succ j =>
    have e2 : L.getD j Ent.none_ = L[j] := by simp [List.getD, Nat.lt_of_succ_lt hj]
    rw [goodAt_next e1 e2 (hm _ (List.getElem_mem _)), decide_eq_true_eq]
    exact (List.pairwise_iff_getElem.1 hu) j (j + 1) (by omega) hj (by omega)
end Go.Proofs.Ytdcjfgbngmdkfaa

/-
  What the document's Digits does, for numbers that are not below 0.
-/
namespace Go.Proofs.Ytdcjfgbngmdkfaa
open Go.RowKit

/-- A number's decimal digits. -/
def digL (n : Nat) : List UInt8 := if n < 10 then [UInt8.ofNat (48 + n)] else digL (n / 10) ++ [UInt8.ofNat (48 + n % 10)]
termination_by n
decreasing_by omega

theorem digL_low {n : Nat} (h : n < 10) : digL n = [UInt8.ofNat (48 + n)] := by rw [digL, if_pos h]
theorem digL_high {n : Nat} (h : ¬ n < 10) : digL n = digL (n / 10) ++ [UInt8.ofNat (48 + n % 10)] := by rw [digL, if_neg h]

theorem digL_len (n : Nat) : (digL n).length ≤ n + 1 := by
  induction n using Nat.strongRecOn with
  | ind n ih =>
    by_cases h : n < 10
    · rw [digL_low h]; simp
    · rw [digL_high h, List.length_append]
      have := ih (n / 10) (by omega)
      simp only [List.length_cons, List.length_nil]
      omega

theorem strB_app9 (a b : List UInt8) : strB a ++ strB b = strB (a ++ b) := by
  apply ByteArray.ext
  simp

theorem dig_byte {d : Nat} (h : d < 10) : ((UInt8.ofNat (48 + d)).toNat : Int) = 48 + (d : Int) := by
  rw [UInt8.toNat_ofNat']
  omega

/-- The string of one byte that was built. -/
theorem one_byte_run (w : World) (c : UInt8) (n : Int) (hn : n = (c.toNat : Int)) : (convert 23 9 (.slice (some ⟨w.heap.size, 0, none⟩) 1 1)).run Try.prog (w.alloc (.cells #[.int .u8 n] 5)) = .ok (.string (strB [c])) (w.alloc (.cells #[.int .u8 n] 5)) := by
  subst hn
  refine rdB_convert (l := [c]) ⟨_, 1, rfl, Nat.le_refl _, by unfold maxLen; omega, rfl, .inr ⟨w.heap.size, 0, rfl, by simp, fun j u hj => ?_⟩⟩ 23 5 9 Try.underlying23 Try.underlying5 Try.underlying9
  match j, hj with
  | 0, hj => simp at hj; subst hj; go_simp
  | j + 1, hj => simp at hj

set_option maxRecDepth 100000 in
set_option maxHeartbeats 4000000 in
theorem rdigits_any (n : Nat) (hn : n ≤ 1000000) (w : World) : Calls Try.prog 18 #[.int .i64 (n : Int)] w fun e w' => e = .returned (.string (strB (digL n))) ∧ Below w.heap.size w w' := by
  have HN := Lib.hid hn
  go_enter Try.func18, Try.ntmps18
  go_wp2
  go_loopw [0, 3] (fun m s wr => ∃ (k : Nat) (r : List UInt8), k ≤ n ∧ m = .int .i64 k ∧ s = .string (strB r) ∧ Hid (digL n = digL k ++ r) ∧ r.length + k ≤ n ∧ Hid (Below w.heap.size w wr)) (fun m _ _ => (intOf m).toNat)
  case atStart => exact ⟨n, [], Nat.le_refl _, rfl, rfl, Lib.hid (by simp), by simp, Lib.hid (Below.refl _ _)⟩
  case round =>
    obtain ⟨k, r, hk, rfl, rfl, HD, hr, HB⟩ := hrel
    obtain ⟨d, hd⟩ : ∃ d, k % 10 = d := ⟨_, rfl⟩
    by_cases h10 : k < 10
    · have g1 : ¬ (10 : Int) ≤ (k : Int) := by omega
      have w1 : IntKind.i64.wrap (48 + (k : Int)) = 48 + (k : Int) := IntWalk.i64_in _ (by omega)
      have hc := one_byte_run wr (UInt8.ofNat (48 + k)) (48 + (k : Int)) (dig_byte h10).symm
      have hT := strB_app9 [UInt8.ofNat (48 + k)] r
      have hlim : ¬ 9223372036854775807 < 1 + r.length := by omega
      have HR : Hid (digL n = [UInt8.ofNat (48 + k)] ++ r) := Lib.hid (by rw [HD.out, digL_low h10])
      clear hd HD
      generalize UInt8.ofNat (48 + k) = c at *
      have HT := Lib.hid hT
      clear hT
      go_wp2
      go_ret
      exact ⟨by rw [HR.out, ← HT.out]; rfl, HB.out.alloc HB.out.size _⟩
    · have hd10 : d < 10 := by omega
      have g1 : (10 : Int) ≤ (k : Int) := by omega
      have m1 : (k : Int).tmod 10 = (d : Int) := by rw [Int.tmod_eq_emod_of_nonneg (by omega)]; omega
      obtain ⟨q, hq⟩ : ∃ q, k / 10 = q := ⟨_, rfl⟩
      have m2 : (k : Int).tdiv 10 = (q : Int) := by rw [Int.tdiv_eq_ediv_of_nonneg (by omega)]; omega
      have w1 : IntKind.i64.wrap (48 + (d : Int)) = 48 + (d : Int) := IntWalk.i64_in _ (by omega)
      have w2 : IntKind.i64.wrap (d : Int) = (d : Int) := IntWalk.i64_in _ (by omega)
      have w3 : IntKind.i64.wrap (q : Int) = (q : Int) := IntWalk.i64_in _ (by omega)
      have hc := one_byte_run wr (UInt8.ofNat (48 + d)) (48 + (d : Int)) (dig_byte hd10).symm
      have hT := strB_app9 [UInt8.ofNat (48 + d)] r
      have hlim : ¬ 9223372036854775807 < 1 + r.length := by omega
      have HR : Hid (digL n = digL q ++ ([UInt8.ofNat (48 + d)] ++ r)) := Lib.hid (by rw [HD.out, digL_high h10, hq, hd, List.append_assoc])
      have HQ : Hid (q < k ∧ r.length + 1 + q ≤ n ∧ q ≤ n) := Lib.hid (by omega)
      clear hd HD hq
      generalize UInt8.ofNat (48 + d) = c at *
      go_wp2
      go_roundw
      case rel => exact ⟨q, [c] ++ r, by have := HQ.out; omega, rfl, rfl, HR, by have := HQ.out; simp; omega, Lib.hid (HB.out.alloc HB.out.size _)⟩
      case measure => have := HQ.out; simp [intOf]; omega
end Go.Proofs.Ytdcjfgbngmdkfaa

/-
  Chapter 12, the statements' own: entries in order, made by numbers.
-/
namespace Go.Proofs.Ytdcjfgbngmdkfaa
open Go.RowKit

/-- The entry of a number. -/
def keyN (sp n : Nat) : ByteArray := ⟨#[107, 101, 121]⟩ ++ strB (digL (n % (3 + sp % 40)))
def entN (sp n i : Nat) : Ent := if n % 7 = 0 then ⟨keyN sp n, 1 + (i : Int), 2, ⟨#[]⟩⟩ else ⟨keyN sp n, 1 + (i : Int), 1, strB (digL n)⟩
def entsN (ns : List UInt8) (sp : Nat) : List Ent := (List.range ns.length).map fun i => entN sp (ns.getD i 0).toNat i
def mkB (ns : List UInt8) (sp : Nat) : List Ent := build (entsN ns sp)

theorem keyN_len (sp n : Nat) : (keyN sp n).data.toList.length ≤ 64 := by
  unfold keyN
  have h := digL_len (n % (3 + sp % 40))
  have h2 : n % (3 + sp % 40) < 3 + sp % 40 := Nat.mod_lt _ (by omega)
  have : ((⟨#[107, 101, 121]⟩ : ByteArray) ++ strB (digL (n % (3 + sp % 40)))).data.toList.length = 3 + (digL (n % (3 + sp % 40))).length := by simp; omega
  rw [this]
  omega
theorem entN_may (sp n i : Nat) (hn : n ≤ 255) (hi : i ≤ 1000) : (entN sp n i).may = true := by
  have hk := keyN_len sp n
  have hd := digL_len n
  unfold entN
  split
  · unfold Ent.may mayE
    rw [mayB_mk hk (by simp only; omega) (by simp only; omega) (.inr rfl)]
    rfl
  · unfold Ent.may mayE
    rw [mayB_mk hk (by simp only; omega) (by simp only; omega) (.inl rfl)]
    have : (strB (digL n)).data.toList.length ≤ 512 := by
      show (digL n).length ≤ 512
      omega
    simpa using this
theorem entsN_len (ns : List UInt8) (sp : Nat) : (entsN ns sp).length = ns.length := by unfold entsN; simp
theorem entsN_at (ns : List UInt8) (sp : Nat) {k : Nat} (hk : k < ns.length) : (entsN ns sp).getD k Ent.none_ = entN sp (ns.getD k 0).toNat k := by
  unfold entsN
  simp [List.getD, hk]
theorem entsN_may {ns : List UInt8} {sp : Nat} (hl : ns.length ≤ 1000) : ∀ e ∈ entsN ns sp, e.may = true := by
  intro e he
  unfold entsN at he
  obtain ⟨i, hi, rfl⟩ := List.mem_map.1 he
  have := List.mem_range.1 hi
  exact entN_may _ _ _ (by have := (ns.getD i 0).toNat_lt; omega) (by omega)

theorem addL_ge (e : Ent) (l : List Ent) : l.length ≤ (addL e l).length := by
  unfold addL
  cases addB e l
  · exact Nat.le_refl _
  · show l.length ≤ (insE e l).length
    rw [ins_len]
    omega
theorem build_ne {e : Ent} {r : List Ent} (he : e.may = true) : build (e :: r) ≠ [] := by
  have h1 : addL e [] = [e] := by
    unfold addL addB
    rw [he]
    rfl
  have key : ∀ (ys acc : List Ent), acc.length ≤ (ys.foldl (fun acc e => addL e acc) acc).length := by
    intro ys
    induction ys with
    | nil => intro acc; exact Nat.le_refl _
    | cons y r ih => intro acc; exact Nat.le_trans (addL_ge y acc) (ih _)
  have := key r (addL e [])
  rw [h1] at this
  intro h
  unfold build at h
  rw [List.foldl_cons, h1] at h
  rw [h] at this
  simp at this
theorem build_may {xs : List Ent} : ∀ e ∈ build xs, e.may = true := by
  have key : ∀ (ys acc : List Ent), (∀ e ∈ acc, e.may = true) → ∀ e ∈ ys.foldl (fun acc e => addL e acc) acc, e.may = true := by
    intro ys
    induction ys with
    | nil => intro acc h; exact h
    | cons y r ih => intro acc h; exact ih _ (addL_may h)
  exact key xs [] (fun e h => by cases h)

theorem mkB_up (ns : List UInt8) (sp : Nat) : Up (mkB ns sp) := build_up _
theorem mkB_may (ns : List UInt8) (sp : Nat) : ∀ e ∈ mkB ns sp, e.may = true := build_may
theorem mkB_len (ns : List UInt8) (sp : Nat) : (mkB ns sp).length ≤ ns.length := by
  have := build_len (entsN ns sp)
  rw [entsN_len] at this
  exact this
theorem mkB_ne {ns : List UInt8} (sp : Nat) (h : ns ≠ []) (hl : ns.length ≤ 1000) : mkB ns sp ≠ [] := by
  have hl2 := entsN_len ns sp
  have hm := entsN_may (ns := ns) (sp := sp) hl
  have hpos := List.length_pos_iff.2 h
  unfold mkB
  cases hx : entsN ns sp with
  | nil => rw [hx] at hl2; simp at hl2; omega
  | cons e r => exact build_ne (hm e (by rw [hx]; simp))

/-- The document's memory 'q' keeps the entries 'L', in memory of the call's own. -/
structure RM (W w : World) (q : Nat) (L : List Ent) : Prop where
  bel : Below W.heap.size W w
  obj : ∃ G, Ro G w q L ∧ ∀ k, G k → W.heap.size ≤ k
theorem RM.below {W w w' : World} {q : Nat} {L : List Ent} (h : RM W w q L) (hb : Below w.heap.size w w') : RM W w' q L := by
  obtain ⟨G, h1, h2⟩ := h.obj
  exact ⟨h.bel.trans (hb.mono h.bel.size), G, h1.below hb, h2⟩
theorem RM.start (W : World) : RM W (W.alloc (.cells #[.slice none 0 0] 70)) W.heap.size [] := by
  refine ⟨(Below.refl _ _).alloc (Nat.le_refl _) _, fun k => k = W.heap.size, ⟨.slice none 0 0, heap_alloc_new W _, World.ownsRow_nil _ _ _ _, (fun h => by cases h), fun k => ⟨fun h => .inl h, fun h => h.elim id fun h => by cases h⟩, fun e he => by cases he⟩, fun k hk => by omega⟩
theorem rm_add {W w : World} {q : Nat} {L : List Ent} (h : RM W w q L) (e : Ent) (he : e.fits) (hlen : L.length < 100000) :
    Calls Try.prog 39 #[.pointer (some ⟨q, 0, none⟩), .agg #[.string e.u, .int .i64 e.s, .int .i64 e.k, .string e.v]] w fun r w' => r = .returned (.bool (addB e L)) ∧ RM W w' q (addL e L) := by
  obtain ⟨G, h2, h5⟩ := h.obj
  refine (radd_any h2 e he hlen).mono ?_
  rintro r w' ⟨rfl, G', hm, ht, hg⟩
  have hs := h.bel.size
  refine ⟨rfl, h.bel.trans (ht.below h5 hs), G', hm, fun k hG' => ?_⟩
  rcases hg k hG' with h | h
  · exact h5 k h
  · omega
theorem RM.own {W w : World} {q : Nat} {L : List Ent} (h : RM W w q L) : ∃ v, w.heap[q]? = some (.cells #[v] 70 (0, 0)) ∧ OwnE w W.heap.size v L := by
  obtain ⟨G, ⟨v, h1, h2, _, h4, _⟩, h5⟩ := h.obj
  exact ⟨v, h1, own_base h2 fun k hk => h5 k ((h4 k).2 (.inr hk))⟩

/-- What Make tells. -/
def RetMk (w : World) (L : List Ent) (e : Ending) (w' : World) : Prop := ∃ x, e = .returned x ∧ OwnE w' w.heap.size x L ∧ Below w.heap.size w w'

set_option maxRecDepth 100000 in
set_option maxHeartbeats 1000000 in
theorem make12_any (v : Value) (ns : List UInt8) (sp : Nat) (hsp : sp ≤ 255) (w : World) (hv : RdB w v ns) (hl : ns.length ≤ 1000) : Calls Try.prog 17 #[v, .int .u8 (sp : Int)] w (RetMk w (mkB ns sp)) := by
  have HV := Lib.hid hv
  obtain ⟨va, vc, rfl, hc1, hc2⟩ := hv.form
  unfold maxLen at hc2
  clear hv
  obtain ⟨s4, hs4⟩ : ∃ s4, sp % 40 = s4 := ⟨_, rfl⟩
  have a1 : (sp : Int).tmod 40 = (s4 : Int) := by rw [Int.tmod_eq_emod_of_nonneg (by omega)]; omega
  have a2 : (sp : Int) % 40 = (s4 : Int) := by omega
  have a3 : s4 < 40 := by omega
  have HS4 := Lib.hid hs4
  have HL := Lib.hid (entsN_len ns sp)
  have HAT := Lib.hid (fun k (hk : k < ns.length) => entsN_at ns sp hk)
  have HBT := Lib.hid (fun k (hk : k < (entsN ns sp).length) => build_take hk)
  have HBL := Lib.hid (fun k => build_len ((entsN ns sp).take k))
  clear hs4
  go_enter Try.func17, Try.ntmps17
  go_wp2
  go_loopw [6] (fun i wr => ∃ k : Nat, k ≤ ns.length ∧ i = .int .i64 (k : Int) ∧ Hid (RM w wr w.heap.size (build ((entsN ns sp).take k)))) (fun i _ => ns.length - (intOf i).toNat)
  case atStart => exact ⟨0, Nat.zero_le _, rfl, Lib.hid (RM.start w)⟩
  case round =>
    obtain ⟨k, hk, rfl, HR⟩ := hrel
    by_cases hlt : k < ns.length
    · obtain ⟨b, off, cap', hvv, _, _, hbw, hcell⟩ := HV.out.cells (by intro h; subst h; simp at hlt)
      cases hvv
      have z0 := (HR.out.bel.cell (p := ⟨b, off + k, none⟩) hbw).trans (hcell k hlt)
      have HN : Hid (build ((entsN ns sp).take (k + 1)) = addL (entN sp (ns.getD k 0).toNat k) (build ((entsN ns sp).take k))) := Lib.hid (by rw [HBT.out k (by rw [HL.out]; exact hlt), HAT.out k hlt])
      have HF := Lib.hid (Ent.may_fits (entN_may sp (ns.getD k 0).toNat k (by have := (ns.getD k 0).toNat_lt; omega) (by omega)))
      have hnb := byte_le (ns.getD k 0)
      unfold bv at z0
      have HBK := Lib.hid (HBL.out k)
      generalize (ns.getD k 0).toNat = n at *
      generalize build ((entsN ns sp).take k) = Lk at *
      obtain ⟨m, hm⟩ : ∃ m, n % (3 + s4) = m := ⟨_, rfl⟩
      have b1 : (n : Int).tmod (3 + (s4 : Int)) = (m : Int) := by rw [Int.tmod_eq_emod_of_nonneg (by omega), ← hm]; simp
      have b2 : (n : Int) % (3 + (s4 : Int)) = (m : Int) := by rw [← hm]; simp
      have b3 : ¬ (3 : Int) + (s4 : Int) = 0 := by omega
      have HD1 := Lib.hid (rdigits_any m (by have := Nat.mod_lt n (show 0 < 3 + s4 by omega); omega))
      have HD2 := Lib.hid (rdigits_any n (by omega))
      obtain ⟨r7, hr7⟩ : ∃ r7, n % 7 = r7 := ⟨_, rfl⟩
      have d1 : (n : Int).tmod 7 = (r7 : Int) := by rw [Int.tmod_eq_emod_of_nonneg (by omega)]; omega
      have d2 : (n : Int) % 7 = (r7 : Int) := by omega
      have hdl := digL_len m
      have hml := Nat.mod_lt n (show 0 < 3 + s4 by omega)
      have hlim : ¬ 9223372036854775807 < 3 + (digL m).length := by omega
      clear hcell hbw hdl hml
      by_cases hz : r7 = 0
      · have hzb : ((r7 : Int) == 0) = true := by rw [hz]; rfl
        have HE := Lib.hid (show entN sp n k = ⟨⟨#[107, 101, 121]⟩ ++ strB (digL m), 1 + (k : Int), 2, ⟨#[]⟩⟩ by unfold entN keyN; rw [if_pos (hr7.trans hz), HS4.out, hm])
        rw [HE.out] at HN HF
        have HA : Hid (∀ wz, Below wr.heap.size wr wz → Calls Try.prog 39 #[.pointer (some ⟨w.heap.size, 0, none⟩), .agg #[.string (⟨#[107, 101, 121]⟩ ++ strB (digL m)), .int .i64 (1 + (k : Int)), .int .i64 2, .string ⟨#[]⟩]] wz fun r w' => r = .returned (.bool (addB ⟨⟨#[107, 101, 121]⟩ ++ strB (digL m), 1 + (k : Int), 2, ⟨#[]⟩⟩ Lk)) ∧ RM w w' w.heap.size (addL ⟨⟨#[107, 101, 121]⟩ ++ strB (digL m), 1 + (k : Int), 2, ⟨#[]⟩⟩ Lk)) := Lib.hid fun wz hz => rm_add (HR.out.below hz) ⟨⟨#[107, 101, 121]⟩ ++ strB (digL m), 1 + (k : Int), 2, ⟨#[]⟩⟩ HF.out (by have := HBK.out; rw [List.length_take] at this; omega)
        clear hm hr7 hz
        go_wp2_with (first | (go_at_call 18; first | ((with_reducible refine (HD1.out _).mono ?_); rintro e w1 ⟨rfl, hb1⟩) | ((with_reducible refine (HD2.out _).mono ?_); rintro e w2 ⟨rfl, hb2⟩)) | (go_at_call 39; (refine (HA.out _ (belowT (belowT hb1 hb2) ((Below.refl _ _).alloc (Nat.le_refl _) _))).mono ?_); rintro e w3 ⟨rfl, hr3⟩))
        exact ⟨⟨k + 1, hlt, by go_num, Lib.hid (by rw [HN.out]; exact hr3)⟩, by simp [intOf]; omega⟩
      · have hzb : ((r7 : Int) == 0) = false := by have : (r7 : Int) ≠ 0 := (by omega); simpa using this
        have HE := Lib.hid (show entN sp n k = ⟨⟨#[107, 101, 121]⟩ ++ strB (digL m), 1 + (k : Int), 1, (strB (digL n))⟩ by unfold entN keyN; rw [if_neg (fun h => hz (hr7.symm.trans h)), HS4.out, hm])
        rw [HE.out] at HN HF
        have HA : Hid (∀ wz, Below wr.heap.size wr wz → Calls Try.prog 39 #[.pointer (some ⟨w.heap.size, 0, none⟩), .agg #[.string (⟨#[107, 101, 121]⟩ ++ strB (digL m)), .int .i64 (1 + (k : Int)), .int .i64 1, .string (strB (digL n))]] wz fun r w' => r = .returned (.bool (addB ⟨⟨#[107, 101, 121]⟩ ++ strB (digL m), 1 + (k : Int), 1, (strB (digL n))⟩ Lk)) ∧ RM w w' w.heap.size (addL ⟨⟨#[107, 101, 121]⟩ ++ strB (digL m), 1 + (k : Int), 1, (strB (digL n))⟩ Lk)) := Lib.hid fun wz hz => rm_add (HR.out.below hz) ⟨⟨#[107, 101, 121]⟩ ++ strB (digL m), 1 + (k : Int), 1, (strB (digL n))⟩ HF.out (by have := HBK.out; rw [List.length_take] at this; omega)
        clear hm hr7 hz
        go_wp2_with (first | (go_at_call 18; first | ((with_reducible refine (HD1.out _).mono ?_); rintro e w1 ⟨rfl, hb1⟩) | ((with_reducible refine (HD2.out _).mono ?_); rintro e w2 ⟨rfl, hb2⟩)) | (go_at_call 39; (refine (HA.out _ (belowT (belowT hb1 hb2) ((Below.refl _ _).alloc (Nat.le_refl _) _))).mono ?_); rintro e w3 ⟨rfl, hr3⟩))
        exact ⟨⟨k + 1, hlt, by go_num, Lib.hid (by rw [HN.out]; exact hr3)⟩, by simp [intOf]; omega⟩
    · have hke : k = ns.length := by omega
      have HRE := Lib.hid (show RM w wr w.heap.size (mkB ns sp) by
        have h := HR.out
        rw [hke, ← HL.out, List.take_length] at h
        exact h)
      obtain ⟨x, hx1, hx2⟩ := HRE.out.own
      have HX := Lib.hid hx2
      have x0 := blk_cell (i := 0) hx1
      replace x0 : wr.cell? ⟨w.heap.size, 0, none⟩ = some x := x0
      clear hke hx1 hx2
      go_wp2
      go_ret
      exact ⟨_, rfl, HX.out, HRE.out.bel⟩
end Go.Proofs.Ytdcjfgbngmdkfaa

/-
  Chapter 12, the statements' example.
-/
namespace Go.Proofs.Ytdcjfgbngmdkfaa
open Go.RowKit

/-- A row of bytes that was just laid. -/
theorem rdB_row (w : World) (l : List UInt8) (hl : l.length ≤ 1000) : RdB (w.alloc (.cells (l.map bv).toArray 5)) (.slice (some ⟨w.heap.size, 0, none⟩) l.length l.length) l := by
  refine ⟨_, l.length, rfl, Nat.le_refl _, by unfold maxLen; omega, by simp, .inr ⟨w.heap.size, 0, rfl, by simp, fun j u hj => ?_⟩⟩
  rw [Nat.zero_add, cell_of_row _ w.heap.size j _ 5 (0, 0) (heap_alloc_new w _)]
  simpa using hj

theorem may_small {es : List Ent} (h : ∀ e ∈ es, e.may = true) (hl : es.length ≤ 1000) : SmallE es :=
  ⟨hl, fun e he => by have := may_kind (h e he); omega⟩
theorem putErr_mk {ns : List UInt8} (sp : Nat) (h : ns ≠ []) (hl : ns.length ≤ 64) : putErr (mkB ns sp) = 0 := by
  have h1 := rising_up (mkB_up ns sp) (mkB_may ns sp)
  have h2 := mkB_ne sp h (by omega)
  have h3 := mkB_len ns sp
  unfold putErr
  rw [if_neg (by rw [h1]; simpa using h2), if_neg (by omega)]
theorem blockL_pos (es : List Ent) : 2 ≤ (blockL es).length := by rw [blockL_len]; omega

theorem blockL_small {es : List Ent} (h : putErr es = 0) : (blockL es).length ≤ 1000000 := by
  obtain ⟨h1, _, h3⟩ := putErr_ok h
  have := bodyN_len (fun k hk => rising_may h1 hk) es.length (Nat.le_refl _)
  rw [blockL_len]
  omega

theorem mk_fits (ns : List UInt8) (sp : Nat) : ∀ e ∈ mkB ns sp, e.fits := fun e he => Ent.may_fits (mkB_may ns sp e he)

set_option maxRecDepth 100000 in
set_option maxHeartbeats 1000000 in
theorem awake12_any (HP : PutC) (w : World) : Calls Try.prog 8 #[] w fun e w' => e = .returned (.bool true) ∧ Below w.heap.size w w' := by
  have HP1 : Hid (∀ w, Calls Try.prog 9 #[.slice none 0 0] w fun e w' => ∃ x, e = .returned (.tuple #[x, .int .i64 1]) ∧ Below w.heap.size w w') := Lib.hid fun w => by
    refine (HP (.slice none 0 0) [] w (⟨rd_of_own (World.ownsRow_nil w 0 36 4), fun e h => by cases h⟩) ⟨by simp, fun e h => by cases h⟩).mono ?_
    rintro e w' ⟨x, rfl, _, h⟩
    exact ⟨x, rfl, h⟩
  have HE0 := Lib.hid (putErr_mk (ns := [1, 2, 3]) 0 (by simp) (by simp))
  have HMK := Lib.hid (fun v w hv => make12_any v [1, 2, 3] 0 (by omega) w hv (by simp))
  have HSM := Lib.hid (may_small (mkB_may [1, 2, 3] 0) (by have := mkB_len [1, 2, 3] 0; simp at this; omega))
  have HFT := Lib.hid (mk_fits [1, 2, 3] 0)
  generalize mkB [1, 2, 3] 0 = L at *
  have HP2 : Hid (∀ v w, OwnE w 0 v L → Calls Try.prog 9 #[v] w fun e w' => ∃ a c, e = .returned (.tuple #[.slice a (blockL L).length c, .int .i64 0]) ∧ Below w.heap.size w w') := Lib.hid fun v w ho => by
    refine (HP v L w (ho.read HFT.out) HSM.out).mono ?_
    rintro e w' ⟨x, rfl, ho, h⟩
    rw [HE0.out, if_pos rfl] at ho
    obtain ⟨a, c, rfl, _, _⟩ := ho.read.form
    exact ⟨a, c, by rw [HE0.out], h⟩
  have hbl := blockL_pos L
  obtain ⟨bl, hbe⟩ : ∃ bl, (blockL L).length = bl := ⟨_, rfl⟩
  rw [hbe] at HP2 hbl
  have hgt : decide (0 < bl) = true := by simp; omega
  clear hbe hbl
  go_enter Try.func8, Try.ntmps8
  go_wp2_with (first | (go_at_call 9; first | ((with_reducible refine (HP1.out _).mono ?_); rintro e w1 ⟨x1, rfl, hb1⟩) | ((refine (HP2.out _ _ HO3.out).mono ?_); rintro e w4 ⟨a4, c4, rfl, hb4⟩)) | (go_at_call 17; (refine (HMK.out _ _ (rdB_row w1 [1, 2, 3] (by simp))).mono ?_); rintro e w3 ⟨x3, rfl, ho3, hb3⟩; have HO3 := Lib.hid (own_base (B' := 0) ho3 fun _ _ => Nat.zero_le _)) | (go_at_call 15; (refine (num12_any _ _).mono ?_); rintro e w5 ⟨rfl, rfl⟩))
  go_ret
  exact ⟨rfl, belowT (belowT (belowT hb1 ((Below.refl _ _).alloc (Nat.le_refl _) _)) hb3) hb4⟩
end Go.Proofs.Ytdcjfgbngmdkfaa

/-
  SameEntries of one list, told twice.
-/
namespace Go.Proofs.Ytdcjfgbngmdkfaa
open Go.RowKit

set_option maxRecDepth 100000 in
set_option maxHeartbeats 4000000 in
/-- SameEntries of one list, told twice. -/
theorem rsame_ent (va vb : Value) (l : List Ent) (w : World) (hl : l.length < 1000000) (ha : OwnE w 0 va l) (hb : OwnE w 0 vb l) :
    Calls Try.prog 16 #[va, vb] w fun e w' => e = .returned (.bool true) ∧ Below w.heap.size w w' := by
  obtain ⟨aa, ca, rfl, _, _⟩ := ha.form
  obtain ⟨ab, cb, rfl, _, _⟩ := hb.form
  have HA := Lib.hid ha
  have HB := Lib.hid hb
  clear ha hb
  go_enter Try.func16, Try.ntmps16
  go_wp2
  go_loopw [5] (fun i wr => ∃ k : Nat, k ≤ l.length ∧ i = .int .i64 k ∧ Hid (Below w.heap.size w wr)) (fun i _ => l.length - (intOf i).toNat)
  case atStart => exact ⟨0, Nat.zero_le _, rfl, Lib.hid (Below.refl _ _)⟩
  case round =>
    obtain ⟨k, hk, rfl, HBL⟩ := hrel
    by_cases hlt : k < l.length
    · obtain ⟨ba, rfl, hba, c0, c1, c2, c3⟩ := own_ent (HA.out.below HBL.out) hlt
      obtain ⟨bb, rfl, hbb, d0, d1, d2, d3⟩ := own_ent (HB.out.below HBL.out) hlt
      generalize l.getD k Ent.none_ = o at *
      go_wp2
      go_quiet (fail)
      go_wp2
      refine ⟨⟨k + 1, by omega, by go_num, Lib.hid (below_drewN HBL.out _)⟩, ?_⟩
      simp [intOf]; omega
    · go_wp2
      go_ret
      exact ⟨rfl, HBL.out⟩
end Go.Proofs.Ytdcjfgbngmdkfaa

/-
  The walk of BlockBack.
-/
namespace Go.Proofs.Ytdcjfgbngmdkfaa
open Go.RowKit

/-- Of a list in order each one is the first that is not below it. -/
theorem above_self {L : List Ent} (hu : Up L) {i : Nat} (hi : i < L.length) : aboveL L (L.getD i Ent.none_).u (L.getD i Ent.none_).s (L.getD i Ent.none_).k = some (L.getD i Ent.none_) := by
  refine above_at hi (fun j hj => ?_) ?_
  · show (L.getD j Ent.none_).cmp (L.getD i Ent.none_) < 0
    have h := (List.pairwise_iff_getElem.1 hu) j i (by omega) hi hj
    rw [show L.getD j Ent.none_ = L[j]'(by omega) by simp [List.getD, show j < L.length by omega], show L.getD i Ent.none_ = L[i] by simp [List.getD, hi]]
    exact h
  · show ¬ (L.getD i Ent.none_).cmp (L.getD i Ent.none_) < 0
    rw [cmp_self]
    omega

set_option maxRecDepth 100000 in
set_option maxHeartbeats 2000000 in
theorem blockBack_walkC (HP : PutC) (HG : GetC) (HS : SeekC) (v0 : Value) (ns : List UInt8) (a1 a2 a3 a4 : Int) (W : World) (w0 : RdB W v0 ns) (wa1 : (Lit.int .u8 a1).wf = true) (wa2 : (Lit.int .u8 a2).wf = true) (wa3 : (Lit.int .u8 a3).wf = true) (wa4 : (Lit.int .u8 a4).wf = true) :
    Calls Try.prog 4 #[v0, .int .u8 a1, .int .u8 a2, .int .u8 a3, .int .u8 a4] W fun r w' => r = .returned (.bool true) ∧ Below W.heap.size W w' := by
  have HAW := Lib.hid (awake12_any HP)
  have n1 := bounds_u8 wa1
  have n2 := bounds_u8 wa2
  have n3 := bounds_u8 wa3
  have n4 := bounds_u8 wa4
  obtain ⟨sp, rfl⟩ : ∃ n : Nat, a1 = (n : Int) := ⟨a1.toNat, by omega⟩
  obtain ⟨at_, rfl⟩ : ∃ n : Nat, a2 = (n : Int) := ⟨a2.toNat, by omega⟩
  obtain ⟨us, rfl⟩ : ∃ n : Nat, a3 = (n : Int) := ⟨a3.toNat, by omega⟩
  obtain ⟨sq, rfl⟩ : ∃ n : Nat, a4 = (n : Int) := ⟨a4.toNat, by omega⟩
  clear wa1 wa2 wa3 wa4
  obtain ⟨va, vc, rfl, hc1, hc2⟩ := w0.form
  unfold maxLen at hc2
  have HV0 := Lib.hid w0
  clear w0
  by_cases c0 : ns.length = 0
  · have d0 : ((ns.length : Int) == 0) = true := by rw [c0]; rfl
    clear c0
    go_enter Try.func4, Try.ntmps4
    go_wp2_with (go_at_call 8; (refine (HAW.out _).mono ?_); rintro e w9 ⟨rfl, hb9⟩)
    go_ret
    exact ⟨rfl, hb9⟩
  · have d0 : ((ns.length : Int) == 0) = false := by
      have : (ns.length : Int) ≠ 0 := by omega
      simpa using this
    by_cases c1 : 64 < ns.length
    · have d1 : decide ((64 : Int) < (ns.length : Int)) = true := by simp; omega
      clear c0
      go_enter Try.func4, Try.ntmps4
      go_wp2_with (go_at_call 8; (refine (HAW.out _).mono ?_); rintro e w9 ⟨rfl, hb9⟩)
      go_ret
      exact ⟨rfl, hb9⟩
    · have d1 : decide ((64 : Int) < (ns.length : Int)) = false := by simp; omega
      have hne : ns ≠ [] := fun h => c0 (by rw [h]; rfl)
      have HMK := Lib.hid (make12_any _ ns sp (by omega) W HV0.out (by omega))
      have HPE := Lib.hid (putErr_mk sp hne (by omega))
      have HUP := Lib.hid (mkB_up ns sp)
      have HFT := Lib.hid (mk_fits ns sp)
      have hmay := mkB_may ns sp
      have hLl := mkB_len ns sp
      have hLp := List.length_pos_iff.2 (mkB_ne sp hne (by omega))
      have HSM := Lib.hid (may_small hmay (by omega))
      have HMAY := Lib.hid hmay
      have HLL := Lib.hid (show (mkB ns sp).length < 1000000 by omega)
      generalize mkB ns sp = L at *
      clear hmay c0 c1 hne
      have HBS := Lib.hid (blockL_small HPE.out)
      have HGB := Lib.hid (getB_put HPE.out)
      obtain ⟨BL, hBL⟩ : ∃ BL, blockL L = BL := ⟨_, rfl⟩
      rw [hBL] at HBS HGB
      have HPU : Hid (∀ v w, OwnE w 0 v L → Calls Try.prog 9 #[v] w fun e w' => ∃ x, e = .returned (.tuple #[x, .int .i64 0]) ∧ RdB w' x BL ∧ Below w.heap.size w w') := Lib.hid fun v w ho => by
        refine (HP v L w (ho.read HFT.out) HSM.out).mono ?_
        rintro e w' ⟨x, rfl, ho, h⟩
        rw [HPE.out, if_pos rfl, hBL] at ho
        exact ⟨x, by rw [HPE.out], ho.read, h⟩
      have HGE : Hid (∀ v w, RdB w v BL → Calls Try.prog 11 #[v] w fun e w' => ∃ x, e = .returned (.tuple #[x, .bool true]) ∧ OwnE w' 0 x L ∧ Below w.heap.size w w') := Lib.hid fun v w ho => by
        refine (HG v BL w ho HBS.out).mono ?_
        rintro e w' ⟨x, rfl, ho, h⟩
        rw [HGB.out] at ho
        exact ⟨x, by rw [HGB.out]; rfl, own_base ho fun _ _ => Nat.zero_le _, h⟩
      have HSK : Hid (∀ (u : ByteArray) (s k : Int), u.size ≤ 1000 → (Lit.int .i64 s).wf = true → (Lit.int .i64 k).wf = true → ∀ v w, RdB w v BL → Calls Try.prog 13 #[v, .agg #[.string u, .int .i64 s, .int .i64 k]] w fun e w' => e = .returned (ansN (aboveL L u s k)) ∧ Below w.heap.size w w') := Lib.hid fun u s k h1 h2 h3 v w ho => by
        have h := HS v BL u s k h1 h2 h3 w ho HBS.out
        rw [HGB.out] at h
        exact h
      clear hBL
      obtain ⟨i, hi⟩ : ∃ i, at_ % L.length = i := ⟨_, rfl⟩
      have hiL : i < L.length := by rw [← hi]; exact Nat.mod_lt _ hLp
      have b1 : (at_ : Int).tmod (L.length : Int) = (i : Int) := by rw [Int.tmod_eq_emod_of_nonneg (by omega), ← hi]; simp
      have b2 : (at_ : Int) % (L.length : Int) = (i : Int) := by rw [← hi]; simp
      have b3 : ¬ (L.length : Int) = 0 := by omega
      have b4 : ((i : Nat) : Int) < (L.length : Int) := by omega
      clear hi
      obtain ⟨m, hm⟩ : ∃ m, us % 50 = m := ⟨_, rfl⟩
      have m1 : (us : Int).tmod 50 = (m : Int) := by rw [Int.tmod_eq_emod_of_nonneg (by omega)]; omega
      have m2 : (us : Int) % 50 = (m : Int) := by omega
      have hml : m < 50 := by omega
      clear hm
      have HDI := Lib.hid (rdigits_any m (by omega))
      have hdl := digL_len m
      obtain ⟨ku, hku⟩ : ∃ ku, (⟨#[107, 101, 121]⟩ : ByteArray) ++ strB (digL m) = ku := ⟨_, rfl⟩
      have hks : ku.size ≤ 1000 := by
        rw [← hku, ByteArray.size_append, strB_size]
        show 3 + (digL m).length ≤ 1000
        omega
      have hlim : ¬ 9223372036854775807 < 3 + (digL m).length := by omega
      have HXM := Lib.hid (HMAY.out (L.getD i Ent.none_) (by simp only [List.getD, List.getElem?_eq_getElem hiL, Option.getD_some]; exact List.getElem_mem hiL))
      have HAS := Lib.hid (above_self HUP.out hiL)
      obtain ⟨X, hX⟩ : ∃ X, L.getD i Ent.none_ = X := ⟨_, rfl⟩
      rw [hX] at HXM HAS
      obtain ⟨xu, xs, xk, xv⟩ := X
      have HX := Lib.hid hX
      have hXf := Ent.may_fits HXM.out
      have hXs := may_kind HXM.out
      have hS1 := fun v w hr => HSK.out xu xs xk (by simp only at hXs; omega) hXf.2.2.1 hXf.2.2.2 v w hr
      rw [HAS.out] at hS1
      have HS1 : Hid (∀ v w, RdB w v BL → Calls Try.prog 13 #[v, .agg #[.string xu, .int .i64 xs, .int .i64 xk]] w fun e w' => e = .returned (.tuple #[.agg #[.string xu, .int .i64 xs, .int .i64 xk, .string xv], .bool true]) ∧ Below w.heap.size w w') := Lib.hid hS1
      obtain ⟨au, as_, ak, av, ab, han⟩ := ansN_form (aboveL L ku (sq : Int) 1)
      have HS2 : Hid (∀ v w, RdB w v BL → Calls Try.prog 13 #[v, .agg #[.string ku, .int .i64 (sq : Int), .int .i64 1]] w fun e w' => e = .returned (.tuple #[.agg #[.string au, .int .i64 as_, .int .i64 ak, .string av], .bool ab]) ∧ Below w.heap.size w w') := Lib.hid fun v w hr => by
        rw [← han]
        exact HSK.out ku sq 1 hks (by simp only [Lit.wf, IntKind.min, IntKind.max, IntKind.signed, IntKind.bits]; simp; omega) (by decide) v w hr
      have HAB : Hid (∀ v w, OwnE w 0 v L → Calls Try.prog 14 #[v, .agg #[.string ku, .int .i64 (sq : Int), .int .i64 1]] w fun e w' => e = .returned (.tuple #[.agg #[.string au, .int .i64 as_, .int .i64 ak, .string av], .bool ab]) ∧ Below w.heap.size w w') := Lib.hid fun v w hr => by
        rw [← han]
        exact rabove_any (hr.read HFT.out) ku sq 1
      clear han hX hS1 hXf hXs hdl hks hLp
      go_enter Try.func4, Try.ntmps4
      go_wp2_with (first | (go_at_call 8; (refine (HAW.out _).mono ?_); rintro e w9 ⟨rfl, hb9⟩) | (go_at_call 17; (refine HMK.out.mono ?_); rintro e w1 ⟨x1, rfl, ho1, hb1⟩; obtain ⟨l1, c1, rfl, _, _⟩ := ho1.form; have HO1 := Lib.hid (show OwnE w1 0 (.slice l1 L.length c1) L from own_base ho1 fun _ _ => Nat.zero_le _); obtain ⟨g1, rfl, _⟩ := own_ent HO1.out hiL; have HB1 : Hid (Below W.heap.size W w1) := Lib.hid hb1; clear ho1 hb1) | (go_at_call 9; (refine (HPU.out _ _ HO1.out).mono ?_); rintro e w2 ⟨x2, rfl, ho2, hb2⟩; obtain ⟨l2, c2, rfl, _, _⟩ := ho2.form; have HO2 := Lib.hid ho2; have HB2 := Lib.hid (belowT HB1.out hb2); have HC2 := Lib.hid hb2; clear ho2 hb2) | (go_at_call 11; (refine (HGE.out _ _ HO2.out).mono ?_); rintro e w3 ⟨x3, rfl, ho3, hb3⟩; have HO3 := Lib.hid ho3; have HB3 := Lib.hid (belowT HB2.out hb3); have HC3 := Lib.hid hb3; clear ho3 hb3) | (go_at_call 15; (refine (num12_any _ _).mono ?_); rintro e w10 ⟨rfl, rfl⟩) | (go_at_call 16; (refine (rsame_ent _ _ L _ HLL.out HO3.out (HO1.out.below (belowT HC2.out HC3.out))).mono ?_); rintro e w4 ⟨rfl, hb4⟩; have HO4 := Lib.hid (HO1.out.below (belowT (belowT HC2.out HC3.out) hb4)); have HR4 := Lib.hid (HO2.out.below (belowT HC3.out hb4) (Nat.le_refl _)); obtain ⟨_, hgg, _, e0, e1, e2, e3⟩ := own_ent HO4.out hiL; cases hgg; rw [HX.out] at e0 e1 e2 e3; simp only at e0 e1 e2 e3; have HB4 := Lib.hid (belowT HB3.out hb4); clear hb4) | (go_at_call 13; have hr := HR4.out.below ((Below.refl _ w4).alloc (Nat.le_refl _) (.cells #[.string xu, .int .i64 xs, .int .i64 xk, .string xv] 36)) (Nat.le_refl _); (with_reducible refine (HS1.out _ _ hr).mono ?_); clear hr; rintro e w5 ⟨rfl, hb5⟩; have D45 := Lib.hid (belowT hb5 ((Below.refl _ w5).alloc (Nat.le_refl _) (.cells #[.string xu, .int .i64 xs, .int .i64 xk, .string xv] 36))); clear hb5) | (go_at_call 18; (refine (HDI.out _).mono ?_); rintro e w6 ⟨rfl, hb6⟩; have D56 := Lib.hid (belowT hb6 ((Below.refl _ w6).alloc (Nat.le_refl _) (.cells #[.string ku, .int .i64 (sq : Int), .int .i64 1] 25))); clear hb6) | (go_at_call 13; have hr := HR4.out.below (belowT (belowT ((Below.refl _ w4).alloc (Nat.le_refl _) (.cells #[.string xu, .int .i64 xs, .int .i64 xk, .string xv] 36)) D45.out) D56.out) (Nat.le_refl _); (with_reducible refine (HS2.out _ _ hr).mono ?_); clear hr; rintro e w7 ⟨rfl, hb7⟩; have D67 := Lib.hid (belowT hb7 ((Below.refl _ w7).alloc (Nat.le_refl _) (.cells #[.string au, .int .i64 as_, .int .i64 ak, .string av] 36))); have p9 := (D67.out.block w6.heap.size (by simp)).trans (heap_alloc_new w6 _); have k0 := blk_cell (i := 0) p9; have k1 := blk_cell (i := 1) p9; have k2 := blk_cell (i := 2) p9; clear hb7 p9) | (go_at_call 14; have hr := HO4.out.below (belowT (belowT (belowT ((Below.refl _ w4).alloc (Nat.le_refl _) (.cells #[.string xu, .int .i64 xs, .int .i64 xk, .string xv] 36)) D45.out) D56.out) D67.out); (with_reducible refine (HAB.out _ _ hr).mono ?_); clear hr; rintro e w8 ⟨rfl, hb8⟩; have D78 := Lib.hid (belowT hb8 ((Below.refl _ w8).alloc (Nat.le_refl _) (.cells #[.string au, .int .i64 as_, .int .i64 ak, .string av] 36))); have p6 := ((belowT (belowT (belowT D45.out D56.out) D67.out) D78.out).block w4.heap.size (by simp)).trans (heap_alloc_new w4 _); have p7 := ((belowT (belowT D56.out D67.out) D78.out).block w5.heap.size (by simp)).trans (heap_alloc_new w5 _); have p0 := (D78.out.block w7.heap.size (by simp)).trans (heap_alloc_new w7 _); have f0 := blk_cell (i := 0) p6; have f1 := blk_cell (i := 1) p6; have f2 := blk_cell (i := 2) p6; have f3 := blk_cell (i := 3) p6; have h0 := blk_cell (i := 0) p7; have h1 := blk_cell (i := 1) p7; have h2 := blk_cell (i := 2) p7; have h3 := blk_cell (i := 3) p7; have j0 := blk_cell (i := 0) p0; have j1 := blk_cell (i := 1) p0; have j2 := blk_cell (i := 2) p0; have j3 := blk_cell (i := 3) p0; have HB8 := Lib.hid (belowT HB4.out (belowT (belowT (belowT (belowT ((Below.refl _ w4).alloc (Nat.le_refl _) (.cells #[.string xu, .int .i64 xs, .int .i64 xk, .string xv] 36)) D45.out) D56.out) D67.out) D78.out)); clear hb8 p6 p7 p0))
      go_ret
      exact ⟨rfl, belowT HB8.out hb9⟩
end Go.Proofs.Ytdcjfgbngmdkfaa

/-
  The walk of BlockBack, on what is landed.
-/
namespace Go.Proofs.Ytdcjfgbngmdkfaa
open Go.RowKit

theorem blockBack_walk (v0 : Value) (ns : List UInt8) (a1 a2 a3 a4 : Int) (W : World) (w0 : RdB W v0 ns) (wa1 : (Lit.int .u8 a1).wf = true) (wa2 : (Lit.int .u8 a2).wf = true) (wa3 : (Lit.int .u8 a3).wf = true) (wa4 : (Lit.int .u8 a4).wf = true) :
    Calls Try.prog 4 #[v0, .int .u8 a1, .int .u8 a2, .int .u8 a3, .int .u8 a4] W fun r w' => r = .returned (.bool true) ∧ Below W.heap.size W w' :=
  blockBack_walkC put_any get_any12 seek_any12 v0 ns a1 a2 a3 a4 W w0 wa1 wa2 wa3 wa4
end Go.Proofs.Ytdcjfgbngmdkfaa

/-
  How arguments are opened: a slice of bytes that came in reads as a list of bytes; a slice of integers as a list of integers.
-/
namespace Go.Proofs.Ytdcjfgbngmdkfaa
open Go.ChangeShapes Go.WideShapes Go.ChangeAt Go.RowKit

/-- The slice 'v' reads as the integers 'zs' (each of them fits the kind 'k') in world 'w'. -/
def RdI (k : IntKind) (w : World) (v : Value) (zs : List Int) : Prop :=
  ∃ a cap, v = .slice a zs.length cap ∧ zs.length ≤ cap ∧ cap ≤ maxLen ∧ (∀ n ∈ zs, (Lit.int k n).wf = true) ∧
    ((zs = [] ∧ (a = none → cap = 0)) ∨ ∃ b off, a = some ⟨b, off, none⟩ ∧ b < w.heap.size ∧ ∀ i, i < zs.length → w.cell? ⟨b, off + i, none⟩ = some (.int k (zs.getD i 0)))

theorem rdI_open {H : Type} {enc : TypeId × Value → H} {P : Program} {w : World} {k : IntKind} {t e : TypeId} {base : Nat} {m : Nat} {spare : Nat → Bool} {held : Bool} {v : Value} {d : DataW H} {p : List MemPlace} (ht : P.underlying t = some (.slice e)) (he : P.underlying e = some (.int k)) (hc : P.cellsOf e = 1)
    (hok : Value.okWide P w .any base t v) (hd : DataW.Trod enc P w m spare held t v d p) : ∃ zs, RdI k w v zs := by
  obtain ⟨a, len, cap, rfl⟩ := okWide_slice ht hok
  obtain ⟨fuel, hf⟩ := hd
  rcases open_ints ht he hc hf with ⟨hcs, _⟩ | ⟨x, l, c, zs, hcs, _, hl, hm, hz, _, hcell, hwz⟩
  · simp [Value.cells] at hcs
    obtain ⟨rfl, rfl, rfl⟩ := hcs
    exact ⟨[], none, 0, rfl, Nat.le_refl _, Nat.zero_le _, by simp, .inl ⟨rfl, fun _ => rfl⟩⟩
  · simp [Value.cells] at hcs
    obtain ⟨rfl, rfl, rfl⟩ := hcs
    have hz' : len ≤ zs.length := by rw [hz]; split <;> omega
    have hlen : (zs.take len).length = len := by rw [List.length_take]; omega
    refine ⟨zs.take len, some x, cap, by rw [hlen], by rw [hlen]; exact hl, hm, fun n hn => hwz n (List.mem_of_mem_take hn), ?_⟩
    by_cases h0 : len = 0
    · left; subst h0; exact ⟨rfl, fun h => by cases h⟩
    · right
      obtain ⟨b, off, spot⟩ := x
      have hc0 := hcell 0 (by omega)
      have hspot : spot = none := by simpa [Addr.add] using World.cell?_spot hc0
      subst hspot
      refine ⟨b, off, rfl, World.block_lt_of_cell? w _ hc0, fun i hi => ?_⟩
      have hi' : i < len := by omega
      have h1 := hcell i (by omega)
      have hadd : (⟨b, off, none⟩ : Addr).add i = ⟨b, off + i, none⟩ := by unfold Addr.add; split <;> simp_all
      rw [hadd] at h1
      rw [h1]
      simp [List.getD, hi']

theorem RdI.bytes {w : World} {v : Value} {zs : List Int} (h : RdI .u8 w v zs) : ∃ l, RdB w v l := by
  obtain ⟨a, cap, rfl, h1, h2, h3, h4⟩ := h
  have key : ∀ (zs : List Int), (∀ n ∈ zs, (Lit.int .u8 n).wf = true) → ∃ l : List UInt8, l.map (fun c => (c.toNat : Int)) = zs := by
    intro zs
    induction zs with
    | nil => exact fun _ => ⟨[], rfl⟩
    | cons z zs ih =>
      intro h
      obtain ⟨l, hl⟩ := ih fun n hn => h n (List.mem_cons_of_mem _ hn)
      have hz := bounds_u8 (h z (List.mem_cons_self ..))
      refine ⟨UInt8.ofNat z.toNat :: l, ?_⟩
      rw [List.map_cons, hl, UInt8.toNat_ofNat', Nat.mod_eq_of_lt (by omega)]
      congr 1
      omega
  obtain ⟨l, rfl⟩ := key zs h3
  simp only [List.length_map] at h1 h4 ⊢
  refine ⟨l, a, cap, rfl, h1, h2, by simp, ?_⟩
  rcases h4 with ⟨h4, h5⟩ | ⟨b, off, rfl, h5, h6⟩
  · left; exact ⟨by simpa using h4, h5⟩
  · refine .inr ⟨b, off, rfl, h5, fun j u hj => ?_⟩
    have hj' : j < l.length := by
      rcases Nat.lt_or_ge j l.length with h | h
      · exact h
      · simp [List.getElem?_eq_none h] at hj
    rw [h6 j hj']
    simp [hj'] at hj
    simp [List.getD, hj', hj]

theorem rdB_open {H : Type} {enc : TypeId × Value → H} {P : Program} {w : World} {t e : TypeId} {base : Nat} {m : Nat} {spare : Nat → Bool} {held : Bool} {v : Value} {d : DataW H} {p : List MemPlace} (ht : P.underlying t = some (.slice e)) (he : P.underlying e = some (.int .u8)) (hc : P.cellsOf e = 1)
    (hok : Value.okWide P w .any base t v) (hd : DataW.Trod enc P w m spare held t v d p) : ∃ l, RdB w v l :=
  let ⟨_, h⟩ := rdI_open ht he hc hok hd
  h.bytes
end Go.Proofs.Ytdcjfgbngmdkfaa
