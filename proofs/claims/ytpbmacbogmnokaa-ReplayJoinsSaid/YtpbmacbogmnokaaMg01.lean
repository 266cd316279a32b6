import Derived.Test.YtpbmacbogmnokaaMg00
import Derived.Test.YtpbmacbogmnokaaLists
import Derived.Test.YtpbmacbogmnokaaRepDigits
import Derived.Test.YtpbmacbogmnokaaOpsRNorm
import Derived.Deep.Cut
import Derived.Test.YtpbmacbogmnokaaBatchGet
import Derived.Test.YtpbmacbogmnokaaBats
import Derived.Test.YtpbmacbogmnokaaRegion
import Derived.Test.YtpbmacbogmnokaaOpsIns

/-
  What replay.Join does, for any logs, behind any number.
-/
namespace Go.Proofs.Ytpbmacbogmnokaa
open Go.RowKit

/-- The call tells these batches, in memory of its own. -/
def RetBs (w : World) (bs : List Bat) (e : Ending) (w' : World) : Prop := ∃ v xs, e = .returned v ∧ xs.map (·.1) = bs ∧ OwnBs w' w.heap.size v xs ∧ Below w.heap.size w w'

/-- What holds in its loops: what was taken, and the rest. -/
structure JoIn (all : List Bat) (acc : List BV) (rest : List Bat) (last : Int) : Prop where
  so : all = acc.map (·.1) ++ joinF rest last
  few : acc.length + rest.length ≤ 1000000000
  wf : -9223372036854775808 ≤ last ∧ last ≤ 9223372036854775807
  may : AllMay rest

theorem JoIn.old {all : List Bat} {acc : List BV} {b : Bat} {rest : List Bat} {last : Int} (h : JoIn all acc (b :: rest) last) (h1 : b.s ≤ last) : JoIn all acc rest last :=
  ⟨by rw [h.so, joinF_old h1], by have := h.few; simp at this; omega, h.wf, fun c hc => h.may c (by simp [hc])⟩

theorem JoIn.far {all : List Bat} {acc : List BV} {b : Bat} {rest : List Bat} {last : Int} (h : JoIn all acc (b :: rest) last) (h1 : ¬ b.s ≤ last) (h2 : last + 1 < b.s) : acc.map (·.1) = all := by
  rw [h.so, joinF_far h1 h2, List.append_nil]

theorem JoIn.next {all : List Bat} {acc : List BV} {b : Bat} {rest : List Bat} {last : Int} (h : JoIn all acc (b :: rest) last) (h1 : ¬ b.s ≤ last) (h2 : ¬ last + 1 < b.s) (c : Value) : JoIn all (acc ++ [(b, c)]) rest b.s := by
  have hm := mayBt_true (h.may b (by simp))
  refine ⟨by rw [h.so, joinF_next h1 h2]; simp, by have := h.few; simp at this ⊢; omega, by omega, fun c hc => h.may c (by simp [hc])⟩

theorem JoIn.done {all : List Bat} {acc : List BV} {last : Int} (h : JoIn all acc [] last) : acc.map (·.1) = all := by
  have := h.so
  simp only [joinF, List.append_nil] at this
  exact this.symm

theorem AllMay.app {a b : List Bat} (ha : AllMay a) (hb : AllMay b) : AllMay (a ++ b) := fun c hc => by
  rw [List.mem_append] at hc
  exact hc.elim (ha c) (hb c)

theorem logs_may (ls : List (List UInt8)) : AllMay (ls.flatMap fun l => (logL l).1) := fun b hb => by
  obtain ⟨l, _, hl⟩ := List.mem_flatMap.1 hb
  exact logL_may l b hl

theorem logs_drop {ls : List (List UInt8)} {i : Nat} {l : List UInt8} (h : ls[i]? = some l) : (ls.drop i).flatMap (fun l => (logL l).1) = (logL l).1 ++ (ls.drop (i + 1)).flatMap (fun l => (logL l).1) := by
  obtain ⟨hi, rfl⟩ := List.getElem?_eq_some_iff.1 h
  rw [List.drop_eq_getElem_cons hi, List.flatMap_cons]

theorem bats_drop {us : List BV} {k : Nat} (hk : k < us.length) : (us.map (·.1)).drop k = (us.getD k BV.none_).1 :: (us.map (·.1)).drop (k + 1) := by
  rw [List.drop_eq_getElem_cons (by simpa using hk)]
  simp [List.getD, List.getElem?_eq_getElem hk]

set_option maxRecDepth 100000 in
set_option maxHeartbeats 4000000 in
theorem rpjoin_any (w : World) (v : Value) (ls : List (List UInt8)) (last0 : Int) (h : RdLL w v ls) (hl : ∀ l ∈ ls, l.length < 1000000000) (hn : (ls.flatMap fun l => (logL l).1).length ≤ 1000000000)
    (hwf : -9223372036854775808 ≤ last0 ∧ last0 ≤ 9223372036854775807) :
    Calls Try.prog 14 #[v, .int .i64 last0] w (RetBs w (joinL ls last0)) := by
  obtain ⟨a, cap, rfl, _, hc2⟩ := h.form
  unfold maxLen at hc2
  have HV := Lib.hid h
  have HL := Lib.hid hl
  have HJ0 : Hid (JoIn (joinL ls last0) [] ((ls.drop 0).flatMap fun l => (logL l).1) last0) := Lib.hid ⟨rfl, by simpa using hn, hwf, logs_may _⟩
  generalize joinL ls last0 = all at *
  clear h hl hn hwf
  go_enter Try.func14, Try.ntmps14
  go_wp2
  go_step3
  go_wp2
  go_step3
  go_wp2
  go_loopw [1, 5, 14] (fun la u i wr => ∃ (n : Nat) (last : Int) (acc : List BV), n ≤ ls.length ∧ i = .int .i64 n ∧ la = .int .i64 last ∧ Hid (JoIn all acc ((ls.drop n).flatMap fun l => (logL l).1) last) ∧ Hid (OwnBs wr w.heap.size u acc) ∧ Hid (Below w.heap.size w wr)) (fun _ _ i _ => ls.length - (intOf i).toNat)
  case atStart => exact ⟨0, last0, [], Nat.zero_le _, rfl, rfl, HJ0, Lib.hid (OwnBs.nil _ _), Lib.hid (Below.refl _ _)⟩
  case round =>
    obtain ⟨n, last, acc, hn, rfl, rfl, HJ, HO, HB⟩ := hrel
    by_cases hlt : n < ls.length
    · obtain ⟨l, hl⟩ : ∃ l, ls[n]? = some l := ⟨_, List.getElem?_eq_getElem hlt⟩
      obtain ⟨b, o, pa, pc, rfl, hcell, hrd, hb⟩ := (HV.out.below HB.out (Nat.le_refl _)).at_ hl
      have hj := HJ.out
      rw [logs_drop hl] at hj
      have HSC := Lib.hid (rpscan_any wr _ l hrd (HL.out l (List.mem_of_getElem? hl)))
      have HJ1 := Lib.hid hj
      have HOF := Lib.hid HO.out.form
      clear hj hl HJ
      obtain ⟨tail, htail⟩ : ∃ tail, tail = (ls.drop (n + 1)).flatMap (fun l => (logL l).1) := ⟨_, rfl⟩
      rw [← htail] at HJ1
      have HT := Lib.hid htail
      clear htail
      go_wp2
      go_step3
      go_wp2_with (go_at_call 9; refine HSC.out.mono ?_; rintro e w1 ⟨tv, us, rfl, hus, hown, hb1⟩; obtain ⟨ta, tc, rfl, _, htc⟩ := hown.form; have HUS := Lib.hid hus; have HOWN := Lib.hid hown; have HB1 := Lib.hid hb1; clear hus hown hb1)
      go_step3
      go_wp2
      have HOu := Lib.hid (HO.out.below HB1.out (Nat.le_refl _))
      have HUo := Lib.hid (HOWN.out.base HB.out.size)
      have HAP : Hid (∀ k, inBs (.slice ta us.length tc) us k → u5.ownBlock ≠ some k) := Lib.hid fun k hk e => by have := (HOWN.out.lt hk).1; have := (HO.out.lt (.inl e)).2; omega
      have HBo := Lib.hid (HB.out.trans (HB1.out.mono HB.out.size))
      rw [← HUS.out] at HJ1
      clear hcell hrd hb HB1 HOWN HSC HO HB
      unfold maxLen at htc
      go_loopw [1, 5, 25] (fun la u i w2 => ∃ (k : Nat) (last : Int) (acc : List BV), k ≤ us.length ∧ i = .int .i64 k ∧ la = .int .i64 last ∧ Hid (JoIn all acc ((us.map (·.1)).drop k ++ tail) last) ∧ Hid (OwnBs w2 w.heap.size u acc) ∧ Hid (OwnBs w2 w.heap.size (.slice ta us.length tc) us) ∧ Hid (∀ k, inBs (.slice ta us.length tc) us k → u.ownBlock ≠ some k) ∧ Hid (Below w.heap.size w w2)) (fun _ _ i _ => us.length - (intOf i).toNat)
      case atStart => exact ⟨0, last, acc, Nat.zero_le _, rfl, rfl, HJ1, HOu, HUo, HAP, HBo⟩
      case round =>
        clear HJ1 HOu HUo HAP HBo HOF
        obtain ⟨k, last, acc, hk, rfl, rfl, HJ, HO, HU, HA, HB⟩ := hrel
        by_cases hku : k < us.length
        · obtain ⟨b2, o2, xa, xc, rfl, hb2, hx2, c0, c1, hxr, hxw⟩ := HU.out.read.at_ hku
          have hel := HU.out.2 _ (bvGet hku)
          have hin : ∀ q, (us.getD k BV.none_).2.ownBlock = some q → inBs (.slice (some ⟨b2, o2, none⟩) us.length tc) us q := fun q hq => .inr ⟨_, bvGet hku, hq⟩
          have hj := HJ.out
          rw [bats_drop hku, List.cons_append] at hj
          have HJ1 := Lib.hid hj
          have hwf := hj.wf
          have hm := mayBt_true (hj.may _ List.mem_cons_self)
          obtain ⟨ua, uc, rfl, _, huc⟩ := HO.out.form
          unfold maxLen at huc
          have HEL : Hid (ElemB wr w.heap.size (.slice ua acc.length uc) (us.getD k BV.none_)) := Lib.hid ⟨hel.1, hel.2.1, hel.2.2.1, fun q hq => HA.out q (hin q hq)⟩
          clear hj hel hin hxr HJ
          generalize us.getD k BV.none_ = x at *
          obtain ⟨⟨s, ops⟩, xv⟩ := x
          simp only at *
          subst hx2
          have ew : IntKind.i64.wrap ((k : Int) + 1) = (k : Int) + 1 := IntWalk.i64_in _ (by omega)
          by_cases h1 : s ≤ last
          · have HN := Lib.hid (HJ1.out.old h1)
            clear HJ1
            go_wp2
            refine ⟨⟨k + 1, last, acc, by omega, by go_num, rfl, HN, Lib.hid (HO.out.below ((Below.refl _ _).alloc (Nat.le_refl _) _) (Nat.le_refl _)), Lib.hid (HU.out.below ((Below.refl _ _).alloc (Nat.le_refl _) _) (Nat.le_refl _)), HA, Lib.hid (HB.out.alloc HB.out.size _)⟩, ?_⟩
            simp [intOf]; omega
          · have el : IntKind.i64.wrap (last + 1) = last + 1 := IntWalk.i64_in _ (by omega)
            by_cases h2 : last + 1 < s
            · have HD := Lib.hid (HJ1.out.far h1 h2)
              clear HJ1
              go_wp2
              rw [Exit.noGoto_ret]
              go_ret
              exact ⟨_, acc, rfl, HD.out, HO.out.below ((Below.refl _ _).alloc (Nat.le_refl _) _) (Nat.le_refl _), HB.out.alloc HB.out.size _⟩
            · have HN := fun c => Lib.hid (HJ1.out.next h1 h2 c)
              have HN := Lib.hid HN
              have HFW : Hid (acc.length ≤ 1000000000) := Lib.hid (by have := HJ1.out.few; omega)
              clear HJ1
              have hb1 : Below wr.heap.size wr ((wr.alloc (.cells #[.int .i64 s, .slice xa ops.length xc] 24)).alloc (.cells #[.int .i64 s, .slice xa ops.length xc] 24)) := ((Below.refl _ _).alloc (Nat.le_refl _) _).alloc (by simp) _
              obtain ⟨x1, x2⟩ := HO.out.push (x := (⟨s, ops⟩, .slice xa ops.length xc)) hb1 HB.out.size ⟨OwnO.below HEL.out.1 hb1 (Nat.le_refl _), HEL.out.2⟩
              have XR : Hid (Rd ((wr.alloc (.cells #[.int .i64 s, .slice xa ops.length xc] 24)).alloc (.cells #[.int .i64 s, .slice xa ops.length xc] 24)) 2 (.slice (some ⟨wr.heap.size + 1, 0, none⟩) 1 1) 1 [.int .i64 s, .slice xa ops.length xc]) := Lib.hid (by have h := one_bat (wr.alloc (.cells #[.int .i64 s, .slice xa ops.length xc] 24)) s (.slice xa ops.length xc); rwa [show (wr.alloc (.cells #[.int .i64 s, .slice xa ops.length xc] 24)).heap.size = wr.heap.size + 1 by simp] at h)
              have X1 := Lib.hid x1
              have X2 := Lib.hid x2
              have HU1 := Lib.hid (HU.out.below hb1 (Nat.le_refl _))
              have HB1 := Lib.hid hb1
              clear x1 x2 hb1
              go_wp2_with (at_builtin; refine wpList_plain rfl fun K' hK' => ?_; refine wp_append_at (.tmp 40) (.tmp 42) 28 rfl 24 2 32 (.agg #[.int .i64 0, .slice none 0 0]) Try.underlying28 info_bats rfl (by decide) _ _ _ 1 _ _ rfl rfl X1.out XR.out (by simp [Value.oneCell']) ?n1 ?n2 ?k1)
              case n1 => have := HFW.out; omega
              case n2 => have := HFW.out; unfold maxLen; omega
              case k1 =>
                intro v' w' hown hmv
                refine hK' _ _ ?_
                obtain ⟨q1, q2⟩ := X2.out v' w' hown hmv
                obtain ⟨q3, q4⟩ := HU1.out.stays HA.out hmv
                have hbx : w'.cell? ⟨wr.heap.size, 0, none⟩ = some (.int .i64 s) := by
                  have hk0 := (hmv.kept (R := fun q => q = wr.heap.size) fun q hq => ⟨by rw [hq]; simp; omega, fun e => by have := (HO.out.lt (.inl e)).2; omega⟩).cell (p := ⟨wr.heap.size, 0, none⟩) rfl
                  rw [hk0]
                  go_simp
                have Q1 := Lib.hid q1
                have Q2 := Lib.hid q2
                have Q3 := Lib.hid q3
                have Q4 := Lib.hid q4
                clear q1 q2 q3 q4 hown hmv
                go_wp2
                refine ⟨⟨k + 1, s, _, by omega, by go_num, rfl, HN.out _, Q1, Q3, Q4, Lib.hid (HB.out.trans Q2.out)⟩, ?_⟩
                simp [intOf]; omega
        · obtain rfl : k = us.length := by omega
          have hj := HJ.out
          rw [List.drop_of_length_le (by simp), List.nil_append, HT.out] at hj
          have HJ1 := Lib.hid hj
          clear hj HJ
          go_wp2
          rw [Exit.noGoto_normal]
          go_wp2
          refine ⟨⟨n + 1, last, acc, by omega, by go_num, rfl, HJ1, HO, HB⟩, ?_⟩
          simp [intOf]; omega
    · obtain rfl : n = ls.length := by omega
      have hj := HJ.out
      rw [List.drop_length, List.flatMap_nil] at hj
      have HD := Lib.hid hj.done
      clear hj HJ
      go_wp2
      rw [Exit.noGoto_ret]
      go_ret
      exact ⟨_, acc, rfl, HD.out, HO.out, HB.out⟩
end Go.Proofs.Ytpbmacbogmnokaa

/-
  Batches by numbers: what the statements' Make does.
-/
namespace Go.Proofs.Ytpbmacbogmnokaa
open Go.RowKit

def opN (n : Nat) : Ope := if n % 5 = 0 then ⟨2, strB (107 :: digL (n % 7)), ⟨#[]⟩⟩ else ⟨1, strB (107 :: digL (n % 7)), strB (digL n)⟩
def opM (n : Nat) : Ope := ⟨1, strB (108 :: digL (n % 4)), strB [120]⟩
def opsN (n : Nat) : List Ope := if n % 3 = 0 then [opN n, opM n] else [opN n]
/-- The batch of a number. -/
def batN (n : Nat) (s : Int) : Bat := ⟨s, normL (opsN n)⟩
/-- The first 'k' batches. -/
def mkB (ns : List UInt8) (start : Int) (k : Nat) : List Bat := (List.range k).map fun i => batN (ns.getD i 0).toNat (start + i)

theorem mkB_more (ns : List UInt8) (start : Int) (k : Nat) : mkB ns start (k + 1) = mkB ns start k ++ [batN (ns.getD k 0).toNat (start + k)] := by
  unfold mkB
  rw [List.range_succ, List.map_append]
  rfl

theorem mkB_length (ns : List UInt8) (start : Int) (k : Nat) : (mkB ns start k).length = k := by unfold mkB; simp

theorem opN_may {n : Nat} (h : n ≤ 255) : mayO (opN n) = 0 := by
  have h7 := digL_len (n % 7)
  have hn := digL_len n
  have e1 : (strB (107 :: digL (n % 7))).size = (digL (n % 7)).length + 1 := by rw [strB_size, List.length_cons]
  have e2 : (strB (digL n)).size = (digL n).length := strB_size _
  have e3 : (⟨#[]⟩ : ByteArray).size = 0 := rfl
  unfold opN
  split
  · unfold mayO
    simp only [e1, e3]
    rw [if_neg (by omega), if_neg (by omega), if_neg (by omega)]
  · unfold mayO
    simp only [e1, e2]
    rw [if_neg (by omega), if_neg (by omega), if_neg (by omega)]

theorem opM_may (n : Nat) : mayO (opM n) = 0 := by
  have h4 := digL_len (n % 4)
  have e1 : (strB (108 :: digL (n % 4))).size = (digL (n % 4)).length + 1 := by rw [strB_size, List.length_cons]
  have e2 : (strB [120]).size = 1 := strB_size _
  unfold opM mayO
  simp only [e1, e2]
  rw [if_neg (by omega), if_neg (by omega), if_neg (by omega)]

theorem opsN_may {n : Nat} (h : n ≤ 255) : ∀ o ∈ opsN n, mayO o = 0 := by
  intro o ho
  unfold opsN at ho
  split at ho
  · simp only [List.mem_cons, List.not_mem_nil, or_false] at ho
    rcases ho with rfl | rfl
    · exact opN_may h
    · exact opM_may n
  · obtain rfl := List.mem_singleton.1 ho
    exact opN_may h

theorem opsN_len (n : Nat) : 1 ≤ (opsN n).length ∧ (opsN n).length ≤ 2 := by unfold opsN; split <;> simp

theorem batN_may {n : Nat} {s : Int} (h : n ≤ 255) (h1 : 1 ≤ s) (h2 : s ≤ 9007199254740992) : mayBt (batN n s).s (batN n s).ops = true := by
  have hl := opsN_len n
  have hnl := normL_len (opsN n)
  have hne := normL_nonempty (l := opsN n) (fun e => by rw [e] at hl; simp at hl)
  refine mayBt_mk9 h1 h2 (mayOs_mk ?_ ?_ fun o ho => opsN_may h o (normL_mem ho)) (normL_norm _)
  · show 1 ≤ (normL (opsN n)).length
    have := List.length_pos_iff.2 hne
    omega
  · show (normL (opsN n)).length ≤ 32
    omega

theorem mayO_fits {o : Ope} (h : mayO o = 0) : o.fits := by
  obtain ⟨k1, k2, k3, _⟩ := mayO_zero h
  refine ⟨by rcases k1 with k1 | k1 <;> rw [k1] <;> decide, ?_, ?_⟩ <;> (unfold maxLen; omega)

/-- A box with an operation, and the slice of that one that was built. -/
theorem own_one (w w' : World) (o : Ope) (h : w' = (w.alloc (.cells #[.int .i64 o.k, .string o.u, .string o.v] 43)).alloc (.cells #[.int .i64 o.k, .string o.u, .string o.v] 43)) :
    w'.ownsRow 0 43 3 (.slice (some ⟨w.heap.size + 1, 0, none⟩) 1 1) 1 o.cells ∧ Below w.heap.size w w' := by
  subst h
  refine ⟨⟨rfl, .inr ⟨w.heap.size + 1, 1, _, rfl, Nat.zero_le _, heap_new2 w _ _, Nat.le_refl _, by unfold maxLen; omega, rfl, rfl⟩⟩, ((Below.refl _ _).alloc (Nat.le_refl _) _).alloc (by simp) _⟩

theorem byte255 (c : UInt8) : c.toNat ≤ 255 := by have := c.toNat_lt; omega

theorem mkB_may {ns : List UInt8} {start : Int} (k : Nat) (h1 : 1 ≤ start) (h2 : start + k ≤ 9007199254740992) : AllMay (mkB ns start k) := by
  intro b hb
  unfold mkB at hb
  obtain ⟨i, hi, rfl⟩ := List.mem_map.1 hb
  rw [List.mem_range] at hi
  exact batN_may (byte255 _) (by omega) (by omega)

theorem mkB_consec (ns : List UInt8) (start : Int) (k : Nat) : Consec start (mkB ns start k) := by
  intro i b hb
  unfold mkB at hb
  rw [List.getElem?_map] at hb
  rcases Nat.lt_or_ge i k with h | h
  · rw [List.getElem?_range h] at hb
    simp only [Option.map_some, Option.some.injEq] at hb
    rw [← hb]
    rfl
  · rw [List.getElem?_eq_none (by simpa using h)] at hb
    cases hb

set_option maxRecDepth 100000 in
set_option maxHeartbeats 16000000 in
theorem make_any (w : World) (v : Value) (ns : List UInt8) (start : Int) (h : RdB w v ns) (hn : ns.length ≤ 1000) (hs : 0 ≤ start ∧ start ≤ 1000000) :
    Calls Try.prog 16 #[v, .int .i64 start] w (RetBs w (mkB ns start ns.length)) := by
  obtain ⟨a, cap, rfl, _, hcap⟩ := h.form
  unfold maxLen at hcap
  have HV := Lib.hid h
  clear h
  go_enter Try.func16, Try.ntmps16
  go_wp2
  go_loopw [5, 6] (fun u i wr => ∃ (k : Nat) (xs : List BV), k ≤ ns.length ∧ i = .int .i64 k ∧ Hid (xs.map (·.1) = mkB ns start k) ∧ Hid (OwnBs wr w.heap.size u xs) ∧ Hid (Below w.heap.size w wr)) (fun _ i _ => ns.length - (intOf i).toNat)
  case atStart => exact ⟨0, [], Nat.zero_le _, rfl, Lib.hid rfl, Lib.hid (OwnBs.nil _ _), Lib.hid (Below.refl _ _)⟩
  case round =>
    obtain ⟨k, xs, hk, rfl, HX, HO, HB⟩ := hrel
    by_cases hlt : k < ns.length
    · obtain ⟨b, off, cp, hv, _, _, hbw, hcell⟩ := (HV.out.below HB.out (Nat.le_refl _)).cells (by intro e; rw [e] at hlt; simp at hlt)
      cases hv
      have a0 := hcell k hlt
      have HLX : Hid (xs.length = k) := Lib.hid (by have := congrArg List.length HX.out; rw [mkB_length] at this; simpa using this)
      have HXN : Hid (∀ c : Value, (xs ++ [((batN (ns.getD k 0).toNat (start + k), c) : BV)]).map (fun x => x.1) = mkB ns start (k + 1)) := Lib.hid fun c => by rw [mkB_more, ← HX.out, List.map_append]; rfl
      have hn255 := byte255 (ns.getD k 0)
      have hb1 : bv (ns.getD k 0) = .int .u8 ((ns.getD k 0).toNat : Int) := rfl
      rw [hb1] at a0
      clear hcell hb1
      generalize (ns.getD k 0).toNat = n at *
      have HMAY := Lib.hid (opsN_may hn255)
      have HSZ : Hid (1 ≤ start + k → (batN n (start + k)).s = start + k) := Lib.hid fun _ => rfl
      obtain ⟨d7, hd7⟩ : ∃ d, n % 7 = d := ⟨_, rfl⟩
      obtain ⟨d5, hd5⟩ : ∃ d, n % 5 = d := ⟨_, rfl⟩
      obtain ⟨d3, hd3⟩ : ∃ d, n % 3 = d := ⟨_, rfl⟩
      obtain ⟨d4, hd4⟩ : ∃ d, n % 4 = d := ⟨_, rfl⟩
      have b7 : d7 < 7 := by omega
      have b4 : d4 < 4 := by omega
      have m7 : (n : Int).tmod 7 = (d7 : Int) := by rw [Int.tmod_eq_emod_of_nonneg (by omega)]; omega
      have m5 : (n : Int).tmod 5 = (d5 : Int) := by rw [Int.tmod_eq_emod_of_nonneg (by omega)]; omega
      have m3 : (n : Int).tmod 3 = (d3 : Int) := by rw [Int.tmod_eq_emod_of_nonneg (by omega)]; omega
      have m4 : (n : Int).tmod 4 = (d4 : Int) := by rw [Int.tmod_eq_emod_of_nonneg (by omega)]; omega
      have w7 : IntKind.i64.wrap (d7 : Int) = (d7 : Int) := IntWalk.i64_in _ (by omega)
      have w5 : IntKind.i64.wrap (d5 : Int) = (d5 : Int) := IntWalk.i64_in _ (by omega)
      have w3 : IntKind.i64.wrap (d3 : Int) = (d3 : Int) := IntWalk.i64_in _ (by omega)
      have w4 : IntKind.i64.wrap (d4 : Int) = (d4 : Int) := IntWalk.i64_in _ (by omega)
      have wsk : IntKind.i64.wrap (start + (k : Int)) = start + (k : Int) := IntWalk.i64_in _ (by omega)
      have wk : IntKind.i64.wrap ((k : Int) + 1) = (k : Int) + 1 := IntWalk.i64_in _ (by omega)
      have hT7 := strB_app9 [107] (digL d7)
      have hT4 := strB_app9 [108] (digL d4)
      have l7 : ¬ 9223372036854775807 < 1 + (digL d7).length := by have := digL_len d7; omega
      have l4 : ¬ 9223372036854775807 < 1 + (digL d4).length := by have := digL_len d4; omega
      have D7 := Lib.hid (fun W => rdigits_any d7 (by omega) W)
      have DN := Lib.hid (fun W => rdigits_any n (by omega) W)
      have D4 := Lib.hid (fun W => rdigits_any d4 (by omega) W)
      have HOF := Lib.hid HO.out.form
      have HWF : Hid ((Lit.int .i64 (start + (k : Int))).wf = true) := Lib.hid (by simp [Lit.wf, IntKind.min, IntKind.max, IntKind.signed, IntKind.bits]; omega)
      have HN7 := Lib.hid hd7
      have HN4 := Lib.hid hd4
      have HN5 := Lib.hid hd5
      have HN3 := Lib.hid hd3
      clear hd7 hd5 hd3 hd4 HX
      by_cases h5 : d5 = 0
      · have HOP : Hid (opN n = (⟨2, strB (107 :: digL d7), ⟨#[]⟩⟩ : Ope)) := Lib.hid (by unfold opN; rw [HN7.out, HN5.out, if_pos h5])
        subst h5
        go_upto_region 10 with (first | (go_at_call 27; (with_reducible refine (D7.out _).mono ?_); rintro e w1 ⟨rfl, hb⟩; have HW1 := Lib.hid (hb); clear hb) | (go_at_call 27; (with_reducible refine (DN.out _).mono ?_); rintro e w2 ⟨rfl, hb⟩; have HW2 := Lib.hid (HW1.out.trans (hb.mono HW1.out.size)); clear hb))
        obtain ⟨wC, hwC⟩ : ∃ wC, wC = (w2.alloc (.cells #[.int .i64 2, .string (strB (107 :: digL d7)), .string (⟨#[]⟩)] 43)).alloc (.cells #[.int .i64 2, .string (strB (107 :: digL d7)), .string (⟨#[]⟩)] 43) := ⟨_, rfl⟩
        rw [← hwC]
        obtain ⟨hoc, hbc⟩ := own_one w2 wC (⟨2, strB (107 :: digL d7), ⟨#[]⟩⟩ : Ope) hwC
        rw [← HOP.out] at hoc
        have HOC := Lib.hid hoc
        have HC : Hid (Below wr.heap.size wr wC) := Lib.hid (HW2.out.trans (hbc.mono HW2.out.size))
        clear hwC hoc hbc
        obtain ⟨ua, uc, rfl, _, huc⟩ := HOF.out
        unfold maxLen at huc
        by_cases h3 : d3 = 0
        · have HOS : Hid (opsN n = [opN n, opM n]) := Lib.hid (by unfold opsN; rw [HN3.out, if_pos h3])
          have HOM : Hid (opM n = ⟨1, strB (108 :: digL d4), strB [120]⟩) := Lib.hid (by unfold opM; rw [HN4.out])
          subst h3
          go_wp2_with (first | (go_at_call 27; (with_reducible refine (D4.out _).mono ?_); rintro e w4 ⟨rfl, hb⟩; have HW4 := Lib.hid (HC.out.trans (hb.mono HC.out.size)); have hbp : Below wC.heap.size wC (w4.alloc (.cells #[.int .i64 1, .string (strB (108 :: digL d4)), .string (strB [120])] 43)) := hb.alloc hb.size _; have Y1 := Lib.hid (own_kept HOC.out (Kept.of hbp fun _ h => h) fun q hq => own_lt HOC.out q hq); clear hb hbp; have Y2 : Hid (Rd (w4.alloc (.cells #[.int .i64 1, .string (strB (108 :: digL d4)), .string (strB [120])] 43)) 3 (.slice (some ⟨w4.heap.size, 0, none⟩) 1 1) 1 (opM n).cells) := Lib.hid (by rw [HOM.out]; exact one_op w4 ⟨1, strB (108 :: digL d4), strB [120]⟩)) | (at_builtin; refine wpList_plain rfl fun K' hK' => ?_; refine wp_append_at (.tmp 39) (.tmp 45) 22 rfl 43 3 40 (.agg #[.int .i64 0, .string ⟨#[]⟩, .string ⟨#[]⟩]) Try.underlying22 info_op rfl (by decide) _ _ 1 1 _ _ rfl rfl Y1.out Y2.out (opCells_one _) ?m1 ?m2 ?j1))
          case m1 => decide
          case m2 => unfold maxLen; decide
          case j1 =>
            intro v4 w5 hown4 hm4
            refine hK' _ _ ?_
            have HRD : Hid (RdO w5 v4 (opsN n)) := Lib.hid ⟨by rw [HOS.out]; exact rd_of_own hown4, fun o ho => mayO_fits (HMAY.out o ho)⟩
            have HE : Hid (Below wr.heap.size wr w5) := Lib.hid ((HW4.out.alloc HW4.out.size _).grown hm4.grown (Nat.le_trans HW4.out.size (by simp)) fun q hq => by cases hq; have := HW2.out.size; show wr.heap.size ≤ w2.heap.size + 1; omega)
            obtain ⟨va, vc, rfl, _, _⟩ := HRD.out.form
            clear hown4 hm4
            go_wp2_with (first | (go_at_call 28; (with_reducible refine (rnorm_any _ (opsN n) _ HRD.out (by have := opsN_len n; omega)).mono ?_); rintro e wF ⟨nv, rfl, ho, hb⟩; obtain ⟨na, nc, rfl, _, _⟩ := ho.form; have HFB := Lib.hid (HE.out.trans (hb.mono HE.out.size)); obtain ⟨x1, x2⟩ := HO.out.push (x := (batN n (start + k), .slice na (normL (opsN n)).length nc)) (w1 := wF.alloc (.cells #[.int .i64 (start + (k : Int)), .slice na (normL (opsN n)).length nc] 24)) (HFB.out.alloc HFB.out.size _) HB.out.size ⟨own_mono (OwnO.below ho ((Below.refl _ _).alloc (Nat.le_refl _) _) (Nat.le_refl _)) (Nat.le_trans HB.out.size HE.out.size), fun o ho => mayO_fits (HMAY.out o (normL_mem ho)), HWF.out, fun q hq e => by have := (World.ownsRow.lt ho q hq).1; have := (HO.out.lt (.inl e)).2; have := HE.out.size; omega⟩; have X1 := Lib.hid x1; have X2 := Lib.hid x2; clear x1 x2 ho hb) | (at_builtin; refine wpList_plain rfl fun K' hK' => ?_; refine wp_append_at (.tmp 47) (.tmp 54) 28 rfl 24 2 32 (.agg #[.int .i64 0, .slice none 0 0]) Try.underlying28 info_bats rfl (by decide) _ _ _ 1 _ _ rfl rfl X1.out (one_bat _ _ _) (by simp [Value.oneCell']) ?n1 ?n2 ?k1))
            case n1 => have := HLX.out; omega
            case n2 => have := HLX.out; unfold maxLen; omega
            case k1 =>
              intro v' w' hown hmv
              refine hK' _ _ ?_
              obtain ⟨q1, q2⟩ := X2.out v' w' hown hmv
              have Q1 := Lib.hid q1
              have Q2 := Lib.hid q2
              clear q1 q2 hown hmv
              go_wp2
              go_roundw
              case rel => exact ⟨k + 1, _, by omega, by go_num, Lib.hid (HXN.out _), Q1, Lib.hid (HB.out.trans Q2.out)⟩
              case measure => simp [intOf]; omega
        · have HOS : Hid (opsN n = [opN n]) := Lib.hid (by unfold opsN; rw [HN3.out, if_neg h3])
          have g3 : ((d3 : Int) == 0) = false := by rw [beq_eq_false_iff_ne]; omega
          have HRD : Hid (RdO wC (.slice (some ⟨w2.heap.size + 1, 0, none⟩) 1 1) (opsN n)) := Lib.hid ⟨by rw [HOS.out]; exact rd_of_own HOC.out, fun o ho => mayO_fits (HMAY.out o ho)⟩
          have HE := HC
          go_wp2_with (first | (go_at_call 28; (with_reducible refine (rnorm_any _ (opsN n) _ HRD.out (by have := opsN_len n; omega)).mono ?_); rintro e wF ⟨nv, rfl, ho, hb⟩; obtain ⟨na, nc, rfl, _, _⟩ := ho.form; have HFB := Lib.hid (HE.out.trans (hb.mono HE.out.size)); obtain ⟨x1, x2⟩ := HO.out.push (x := (batN n (start + k), .slice na (normL (opsN n)).length nc)) (w1 := wF.alloc (.cells #[.int .i64 (start + (k : Int)), .slice na (normL (opsN n)).length nc] 24)) (HFB.out.alloc HFB.out.size _) HB.out.size ⟨own_mono (OwnO.below ho ((Below.refl _ _).alloc (Nat.le_refl _) _) (Nat.le_refl _)) (Nat.le_trans HB.out.size HE.out.size), fun o ho => mayO_fits (HMAY.out o (normL_mem ho)), HWF.out, fun q hq e => by have := (World.ownsRow.lt ho q hq).1; have := (HO.out.lt (.inl e)).2; have := HE.out.size; omega⟩; have X1 := Lib.hid x1; have X2 := Lib.hid x2; clear x1 x2 ho hb) | (at_builtin; refine wpList_plain rfl fun K' hK' => ?_; refine wp_append_at (.tmp 47) (.tmp 54) 28 rfl 24 2 32 (.agg #[.int .i64 0, .slice none 0 0]) Try.underlying28 info_bats rfl (by decide) _ _ _ 1 _ _ rfl rfl X1.out (one_bat _ _ _) (by simp [Value.oneCell']) ?n1 ?n2 ?k1))
          case n1 => have := HLX.out; omega
          case n2 => have := HLX.out; unfold maxLen; omega
          case k1 =>
            intro v' w' hown hmv
            refine hK' _ _ ?_
            obtain ⟨q1, q2⟩ := X2.out v' w' hown hmv
            have Q1 := Lib.hid q1
            have Q2 := Lib.hid q2
            clear q1 q2 hown hmv
            go_wp2
            go_roundw
            case rel => exact ⟨k + 1, _, by omega, by go_num, Lib.hid (HXN.out _), Q1, Lib.hid (HB.out.trans Q2.out)⟩
            case measure => simp [intOf]; omega
      · have HOP : Hid (opN n = (⟨1, strB (107 :: digL d7), strB (digL n)⟩ : Ope)) := Lib.hid (by unfold opN; rw [HN7.out, HN5.out, if_neg h5])
        have g5 : ((d5 : Int) == 0) = false := by rw [beq_eq_false_iff_ne]; omega
        go_upto_region 10 with (first | (go_at_call 27; (with_reducible refine (D7.out _).mono ?_); rintro e w1 ⟨rfl, hb⟩; have HW1 := Lib.hid (hb); clear hb) | (go_at_call 27; (with_reducible refine (DN.out _).mono ?_); rintro e w2 ⟨rfl, hb⟩; have HW2 := Lib.hid (HW1.out.trans (hb.mono HW1.out.size)); clear hb))
        obtain ⟨wC, hwC⟩ : ∃ wC, wC = (w2.alloc (.cells #[.int .i64 1, .string (strB (107 :: digL d7)), .string (strB (digL n))] 43)).alloc (.cells #[.int .i64 1, .string (strB (107 :: digL d7)), .string (strB (digL n))] 43) := ⟨_, rfl⟩
        rw [← hwC]
        obtain ⟨hoc, hbc⟩ := own_one w2 wC (⟨1, strB (107 :: digL d7), strB (digL n)⟩ : Ope) hwC
        rw [← HOP.out] at hoc
        have HOC := Lib.hid hoc
        have HC : Hid (Below wr.heap.size wr wC) := Lib.hid (HW2.out.trans (hbc.mono HW2.out.size))
        clear hwC hoc hbc
        obtain ⟨ua, uc, rfl, _, huc⟩ := HOF.out
        unfold maxLen at huc
        by_cases h3 : d3 = 0
        · have HOS : Hid (opsN n = [opN n, opM n]) := Lib.hid (by unfold opsN; rw [HN3.out, if_pos h3])
          have HOM : Hid (opM n = ⟨1, strB (108 :: digL d4), strB [120]⟩) := Lib.hid (by unfold opM; rw [HN4.out])
          subst h3
          go_wp2_with (first | (go_at_call 27; (with_reducible refine (D4.out _).mono ?_); rintro e w4 ⟨rfl, hb⟩; have HW4 := Lib.hid (HC.out.trans (hb.mono HC.out.size)); have hbp : Below wC.heap.size wC (w4.alloc (.cells #[.int .i64 1, .string (strB (108 :: digL d4)), .string (strB [120])] 43)) := hb.alloc hb.size _; have Y1 := Lib.hid (own_kept HOC.out (Kept.of hbp fun _ h => h) fun q hq => own_lt HOC.out q hq); clear hb hbp; have Y2 : Hid (Rd (w4.alloc (.cells #[.int .i64 1, .string (strB (108 :: digL d4)), .string (strB [120])] 43)) 3 (.slice (some ⟨w4.heap.size, 0, none⟩) 1 1) 1 (opM n).cells) := Lib.hid (by rw [HOM.out]; exact one_op w4 ⟨1, strB (108 :: digL d4), strB [120]⟩)) | (at_builtin; refine wpList_plain rfl fun K' hK' => ?_; refine wp_append_at (.tmp 39) (.tmp 45) 22 rfl 43 3 40 (.agg #[.int .i64 0, .string ⟨#[]⟩, .string ⟨#[]⟩]) Try.underlying22 info_op rfl (by decide) _ _ 1 1 _ _ rfl rfl Y1.out Y2.out (opCells_one _) ?m1 ?m2 ?j1))
          case m1 => decide
          case m2 => unfold maxLen; decide
          case j1 =>
            intro v4 w5 hown4 hm4
            refine hK' _ _ ?_
            have HRD : Hid (RdO w5 v4 (opsN n)) := Lib.hid ⟨by rw [HOS.out]; exact rd_of_own hown4, fun o ho => mayO_fits (HMAY.out o ho)⟩
            have HE : Hid (Below wr.heap.size wr w5) := Lib.hid ((HW4.out.alloc HW4.out.size _).grown hm4.grown (Nat.le_trans HW4.out.size (by simp)) fun q hq => by cases hq; have := HW2.out.size; show wr.heap.size ≤ w2.heap.size + 1; omega)
            obtain ⟨va, vc, rfl, _, _⟩ := HRD.out.form
            clear hown4 hm4
            go_wp2_with (first | (go_at_call 28; (with_reducible refine (rnorm_any _ (opsN n) _ HRD.out (by have := opsN_len n; omega)).mono ?_); rintro e wF ⟨nv, rfl, ho, hb⟩; obtain ⟨na, nc, rfl, _, _⟩ := ho.form; have HFB := Lib.hid (HE.out.trans (hb.mono HE.out.size)); obtain ⟨x1, x2⟩ := HO.out.push (x := (batN n (start + k), .slice na (normL (opsN n)).length nc)) (w1 := wF.alloc (.cells #[.int .i64 (start + (k : Int)), .slice na (normL (opsN n)).length nc] 24)) (HFB.out.alloc HFB.out.size _) HB.out.size ⟨own_mono (OwnO.below ho ((Below.refl _ _).alloc (Nat.le_refl _) _) (Nat.le_refl _)) (Nat.le_trans HB.out.size HE.out.size), fun o ho => mayO_fits (HMAY.out o (normL_mem ho)), HWF.out, fun q hq e => by have := (World.ownsRow.lt ho q hq).1; have := (HO.out.lt (.inl e)).2; have := HE.out.size; omega⟩; have X1 := Lib.hid x1; have X2 := Lib.hid x2; clear x1 x2 ho hb) | (at_builtin; refine wpList_plain rfl fun K' hK' => ?_; refine wp_append_at (.tmp 47) (.tmp 54) 28 rfl 24 2 32 (.agg #[.int .i64 0, .slice none 0 0]) Try.underlying28 info_bats rfl (by decide) _ _ _ 1 _ _ rfl rfl X1.out (one_bat _ _ _) (by simp [Value.oneCell']) ?n1 ?n2 ?k1))
            case n1 => have := HLX.out; omega
            case n2 => have := HLX.out; unfold maxLen; omega
            case k1 =>
              intro v' w' hown hmv
              refine hK' _ _ ?_
              obtain ⟨q1, q2⟩ := X2.out v' w' hown hmv
              have Q1 := Lib.hid q1
              have Q2 := Lib.hid q2
              clear q1 q2 hown hmv
              go_wp2
              go_roundw
              case rel => exact ⟨k + 1, _, by omega, by go_num, Lib.hid (HXN.out _), Q1, Lib.hid (HB.out.trans Q2.out)⟩
              case measure => simp [intOf]; omega
        · have HOS : Hid (opsN n = [opN n]) := Lib.hid (by unfold opsN; rw [HN3.out, if_neg h3])
          have g3 : ((d3 : Int) == 0) = false := by rw [beq_eq_false_iff_ne]; omega
          have HRD : Hid (RdO wC (.slice (some ⟨w2.heap.size + 1, 0, none⟩) 1 1) (opsN n)) := Lib.hid ⟨by rw [HOS.out]; exact rd_of_own HOC.out, fun o ho => mayO_fits (HMAY.out o ho)⟩
          have HE := HC
          go_wp2_with (first | (go_at_call 28; (with_reducible refine (rnorm_any _ (opsN n) _ HRD.out (by have := opsN_len n; omega)).mono ?_); rintro e wF ⟨nv, rfl, ho, hb⟩; obtain ⟨na, nc, rfl, _, _⟩ := ho.form; have HFB := Lib.hid (HE.out.trans (hb.mono HE.out.size)); obtain ⟨x1, x2⟩ := HO.out.push (x := (batN n (start + k), .slice na (normL (opsN n)).length nc)) (w1 := wF.alloc (.cells #[.int .i64 (start + (k : Int)), .slice na (normL (opsN n)).length nc] 24)) (HFB.out.alloc HFB.out.size _) HB.out.size ⟨own_mono (OwnO.below ho ((Below.refl _ _).alloc (Nat.le_refl _) _) (Nat.le_refl _)) (Nat.le_trans HB.out.size HE.out.size), fun o ho => mayO_fits (HMAY.out o (normL_mem ho)), HWF.out, fun q hq e => by have := (World.ownsRow.lt ho q hq).1; have := (HO.out.lt (.inl e)).2; have := HE.out.size; omega⟩; have X1 := Lib.hid x1; have X2 := Lib.hid x2; clear x1 x2 ho hb) | (at_builtin; refine wpList_plain rfl fun K' hK' => ?_; refine wp_append_at (.tmp 47) (.tmp 54) 28 rfl 24 2 32 (.agg #[.int .i64 0, .slice none 0 0]) Try.underlying28 info_bats rfl (by decide) _ _ _ 1 _ _ rfl rfl X1.out (one_bat _ _ _) (by simp [Value.oneCell']) ?n1 ?n2 ?k1))
          case n1 => have := HLX.out; omega
          case n2 => have := HLX.out; unfold maxLen; omega
          case k1 =>
            intro v' w' hown hmv
            refine hK' _ _ ?_
            obtain ⟨q1, q2⟩ := X2.out v' w' hown hmv
            have Q1 := Lib.hid q1
            have Q2 := Lib.hid q2
            clear q1 q2 hown hmv
            go_wp2
            go_roundw
            case rel => exact ⟨k + 1, _, by omega, by go_num, Lib.hid (HXN.out _), Q1, Lib.hid (HB.out.trans Q2.out)⟩
            case measure => simp [intOf]; omega
    · obtain rfl : k = ns.length := by omega
      go_wp2
      go_ret
      exact ⟨_, xs, rfl, HX.out, HO.out, HB.out⟩
end Go.Proofs.Ytpbmacbogmnokaa

/-
  What the document's SameBatch does, for every two batches.
-/
namespace Go.Proofs.Ytpbmacbogmnokaa
open Go.RowKit

set_option maxRecDepth 100000 in
set_option maxHeartbeats 1000000 in
theorem rsameB_any (s1 s2 : Int) (v1 v2 : Value) (l1 l2 : List Ope) (w : World) (h1 : RdO w v1 l1) (h2 : RdO w v2 l2) :
    Calls Try.prog 21 #[batV s1 v1, batV s2 v2] w fun e w' => e = .returned (.bool (s1 == s2 && sameL l1 l2)) ∧ Below w.heap.size w w' := by
  obtain ⟨a1, c1, rfl, _, _⟩ := h1.form
  obtain ⟨a2, c2, rfl, _, _⟩ := h2.form
  have hb : Below w.heap.size w ((w.alloc (.cells #[.int .i64 s1, .slice a1 l1.length c1] 24)).alloc (.cells #[.int .i64 s2, .slice a2 l2.length c2] 24)) := ((Below.refl _ _).alloc (Nat.le_refl _) _).alloc (by simp) _
  have hs := rsame_any _ _ l1 l2 _ (h1.below hb (Nat.le_refl _)) (h2.below hb (Nat.le_refl _))
  have HS := Lib.hid hs
  have HB := Lib.hid hb
  clear hs hb h1 h2
  by_cases he : s1 = s2
  · subst he
    have h3 : (s1 == s1) = true := by simp
    rw [h3]
    clear h3
    go_enter Try.func21, Try.ntmps21
    go_wp2_with (go_at_call 35; refine HS.out.mono ?_; rintro e w3 ⟨rfl, hb3⟩; have HB3 := Lib.hid (HB.out.trans (hb3.mono (by simp; omega))); clear hb3)
    go_ret
    exact ⟨by simp, HB3.out⟩
  · have h3 : (s1 == s2) = false := by simpa using he
    rw [h3]
    clear he
    go_enter Try.func21, Try.ntmps21
    go_wp2
    go_ret
    exact ⟨by simp, HB.out⟩
end Go.Proofs.Ytpbmacbogmnokaa

/-
  What the document's Batches does, for two lists of batches that are one.
-/
namespace Go.Proofs.Ytpbmacbogmnokaa
open Go.RowKit

theorem bats_len {xs ys : List BV} (h : xs.map (·.1) = ys.map (·.1)) : ys.length = xs.length := by
  have := congrArg List.length h
  simpa using this.symm

theorem bats_at {xs ys : List BV} (h : xs.map (·.1) = ys.map (·.1)) (i : Nat) : (ys.getD i BV.none_).1 = (xs.getD i BV.none_).1 := by
  have e : ∀ l : List BV, (l.getD i BV.none_).1 = (l.map (·.1)).getD i default := by
    intro l
    simp only [List.getD, List.getElem?_map]
    cases l[i]? <;> rfl
  rw [e, e, h]

set_option maxRecDepth 100000 in
set_option maxHeartbeats 4000000 in
theorem rbats_any (va vb : Value) (xs ys : List BV) (w : World) (ha : RdBs w va xs) (hb : RdBs w vb ys) (he : xs.map (·.1) = ys.map (·.1)) :
    Calls Try.prog 11 #[va, vb] w fun e w' => e = .returned (.bool true) ∧ Below w.heap.size w w' := by
  obtain ⟨pa, ca, rfl, _, hca⟩ := ha.form
  obtain ⟨pb, cb, rfl, _, hcb⟩ := hb.form
  unfold maxLen at hca hcb
  have HE := Lib.hid he
  have HA := Lib.hid ha
  have hlen := bats_len he
  rw [hlen] at hb
  have HB := Lib.hid hb
  have HLEN := Lib.hid hlen
  rw [hlen]
  clear ha hb he hlen hcb
  go_enter Try.func11, Try.ntmps11
  go_wp2
  go_loopw [5] (fun i wr => ∃ k : Nat, k ≤ xs.length ∧ i = .int .i64 k ∧ Hid (Below w.heap.size w wr)) (fun i _ => xs.length - (intOf i).toNat)
  case atStart => exact ⟨0, Nat.zero_le _, rfl, Lib.hid (Below.refl _ _)⟩
  case round =>
    obtain ⟨k, hk, rfl, HW⟩ := hrel
    by_cases hlt : k < xs.length
    · have hb0 := HB.out.below HW.out (Nat.le_refl _)
      obtain ⟨b1, o1, p1, q1, rfl, hb1, _, a0, a1, hr1, _⟩ := (HA.out.below HW.out (Nat.le_refl _)).at_ hlt
      rw [← HLEN.out] at hb0
      obtain ⟨b2, o2, p2, q2, rfl, hb2, _, b0, b1, hr2, _⟩ := hb0.at_ (i := k) (by rw [HLEN.out]; exact hlt)
      rw [bats_at HE.out] at b0 b1 hr2
      have ew : IntKind.i64.wrap ((k : Int) + 1) = (k : Int) + 1 := IntWalk.i64_in _ (by omega)
      clear hb0
      generalize (xs.getD k BV.none_).1 = x at *
      obtain ⟨s, ops⟩ := x
      simp only at *
      have HR1 : Hid (RdO wr.drew _ ops) := Lib.hid (hr1.below (Below.refl _ _).drew (Nat.le_refl _))
      have HR2 : Hid (RdO wr.drew _ ops) := Lib.hid (hr2.below (Below.refl _ _).drew (Nat.le_refl _))
      have HT : Hid ((s == s && sameL ops ops) = true) := Lib.hid (by rw [sameL_refl]; simp)
      clear hr1 hr2
      go_upto_region 6 with (fail)
      refine wp_region_plan [(true, 0), (true, 1), (true, 2), (true, 3), (true, 4), (true, 5), (true, 6), (true, 7), (false, 8), (true, 9)] (by kernel_rfl) (by kernel_rfl) (by kernel_rfl) (by kernel_rfl) (by kernel_rfl) ?_
      simp only [planO, List.drop_succ_cons, List.drop_zero]
      refine PlanO.take (v := ?v0) (by kernel_rfl) ?y0 ?r0
      case y0 => (intro wz hz; go_simp; try with_reducible rfl)
      (try simp only [Act.put, List.setIfInBounds_toArray, List.set_cons_zero, List.set_cons_succ])
      refine PlanO.take (v := ?v1) (by kernel_rfl) ?y1 ?r1
      case y1 => (intro wz hz; go_simp; try with_reducible rfl)
      (try simp only [Act.put, List.setIfInBounds_toArray, List.set_cons_zero, List.set_cons_succ])
      refine PlanO.take (v := ?v2) (by kernel_rfl) ?y2 ?r2
      case y2 => (intro wz hz; go_simp; try with_reducible rfl)
      (try simp only [Act.put, List.setIfInBounds_toArray, List.set_cons_zero, List.set_cons_succ])
      refine PlanO.take (v := ?v3) (by kernel_rfl) ?y3 ?r3
      case y3 => (intro wz hz; have c0 := Ext.at_ hz a0; have c1 := Ext.at_ hz a1; go_simp; try with_reducible rfl)
      (try simp only [Act.put, List.setIfInBounds_toArray, List.set_cons_zero, List.set_cons_succ])
      refine PlanO.take (v := ?v4) (by kernel_rfl) ?y4 ?r4
      case y4 => (intro wz hz; go_simp; try with_reducible rfl)
      (try simp only [Act.put, List.setIfInBounds_toArray, List.set_cons_zero, List.set_cons_succ])
      refine PlanO.take (v := ?v5) (by kernel_rfl) ?y5 ?r5
      case y5 => (intro wz hz; go_simp; try with_reducible rfl)
      (try simp only [Act.put, List.setIfInBounds_toArray, List.set_cons_zero, List.set_cons_succ])
      refine PlanO.take (v := ?v6) (by kernel_rfl) ?y6 ?r6
      case y6 => (intro wz hz; go_simp; try with_reducible rfl)
      (try simp only [Act.put, List.setIfInBounds_toArray, List.set_cons_zero, List.set_cons_succ])
      refine PlanO.take (v := ?v7) (by kernel_rfl) ?y7 ?r7
      case y7 => (intro wz hz; have c2 := Ext.at_ hz b0; have c3 := Ext.at_ hz b1; go_simp; try with_reducible rfl)
      (try simp only [Act.put, List.setIfInBounds_toArray, List.set_cons_zero, List.set_cons_succ])
      refine PlanO.exec (fun K hK => ?_)
      go_simp
      go_at_call 21
      (with_reducible refine (rsameB_any s s _ _ ops ops _ HR1.out HR2.out).mono ?_)
      rintro e w1 ⟨rfl, he1⟩
      rw [HT.out]
      have HE1 : Hid (Ext wr.drew w1) := Lib.hid he1
      go_wp2_with fail
      refine hK.out _ _ he1 ?_
      clear hK K
      (try simp only [Act.put, List.setIfInBounds_toArray, List.set_cons_zero, List.set_cons_succ])
      refine PlanO.take (v := ?v9) (by kernel_rfl) ?y9 ?r9
      case y9 => (intro wz hz; go_simp; try with_reducible rfl)
      (try simp only [Act.put, List.setIfInBounds_toArray, List.set_cons_zero, List.set_cons_succ])
      refine PlanO.done (NoPanic.normal ?_)
      go_wp2
      refine ⟨⟨k + 1, by omega, by go_num, Lib.hid (HW.out.trans (Below.mono (below_draw HE1.out) HW.out.size))⟩, ?_⟩
      simp [intOf]; omega
    · obtain rfl : k = xs.length := by omega
      go_wp2
      go_ret
      exact ⟨rfl, HW.out⟩
end Go.Proofs.Ytpbmacbogmnokaa

/-
  The example of layer 9.
-/
namespace Go.Proofs.Ytpbmacbogmnokaa
open Go.RowKit

def ex9 : Ope := ⟨2, ⟨#[97]⟩, ⟨#[]⟩⟩

theorem ex9_may : mayBt 1 [ex9] = true := by
  refine mayBt_mk9 (by decide) (by decide) ?_ ?_
  · exact mayOs_mk (by decide) (by decide) fun o ho => by
      obtain rfl := List.mem_singleton.1 ho
      decide
  · rfl

theorem ex9_len : (recB ⟨1, [ex9]⟩).length = 13 := by
  rw [recB_length (b := ⟨1, [ex9]⟩) ex9_may]
  have h1 : putL 1 = [1] := putL_lt 1 (by decide)
  have h2 : putL 2 = [2] := putL_lt 2 (by decide)
  unfold putBat
  rw [if_pos ex9_may]
  have h3 : (⟨#[97]⟩ : ByteArray).size = 1 := rfl
  unfold putBody putOpL putT ex9
  simp [h1, h2, h3]

theorem log_nil : logL [] = ([], 0) := (LogSo.start []).stop (recAt_no (none_nil []))

theorem ex9_fits : ∀ o ∈ [ex9], o.fits := (may_fits ex9_may).1

set_option maxRecDepth 100000 in
set_option maxHeartbeats 1000000 in
theorem awake9_any (w : World) : Calls Try.prog 8 #[] w fun e w' => e = .returned (.bool true) ∧ Below w.heap.size w w' := by
  have hs := rpscan_any w (.slice none 0 0) [] (Rd.nil _ _) (by simp)
  have hp : ∀ W : World, Calls Try.prog 12 #[batV 1 (.slice (some ⟨W.heap.size, 0, none⟩) 1 1)] (W.alloc (.cells #[.int .i64 2, .string ⟨#[97]⟩, .string ⟨#[]⟩] 43)) (RetB (W.alloc (.cells #[.int .i64 2, .string ⟨#[97]⟩, .string ⟨#[]⟩] 43)).heap.size (W.alloc (.cells #[.int .i64 2, .string ⟨#[97]⟩, .string ⟨#[]⟩] 43)) (recB ⟨1, [ex9]⟩)) :=
    fun W => rpput_any 1 (.slice (some ⟨W.heap.size, 0, none⟩) 1 1) [ex9] _ ⟨one_op W ex9, ex9_fits⟩ (by simp)
  have HL := Lib.hid ex9_len
  generalize recB ⟨1, [ex9]⟩ = l at hp HL
  have HS := Lib.hid hs
  have HP := Lib.hid hp
  have HN := Lib.hid log_nil
  clear hs hp
  go_enter Try.func8, Try.ntmps8
  go_wp2_with (first | (go_at_call 9; refine HS.out.mono ?_; rintro e w1 ⟨v1, xs, rfl, hx, ho1, hb1⟩; rw [HN.out] at hx ⊢; obtain rfl : xs = [] := List.map_eq_nil_iff.1 hx; obtain ⟨a1, c1, rfl, _, _⟩ := ho1.form; have HB1 := Lib.hid hb1; clear ho1 hb1 hx) | (go_at_call 12; refine (HP.out _).mono ?_; rintro e w2 ⟨v2, rfl, ho2, hb2⟩; obtain ⟨a2, c2, rfl, hc2, _⟩ := ho2.read.form; have HB2 := Lib.hid ((HB1.out.alloc HB1.out.size _).trans (hb2.mono (by have := HB1.out.size; simp; omega))); have hl := HL.out; rw [hl]; clear ho2 hb2 hc2 HL hl))
  go_ret
  exact ⟨by simp, HB2.out⟩
end Go.Proofs.Ytpbmacbogmnokaa
