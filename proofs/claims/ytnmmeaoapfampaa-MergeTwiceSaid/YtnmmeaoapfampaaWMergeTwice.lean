/-
  The walk of MergeTwice.
-/
import Derived.Test.YtnmmeaoapfampaaMergeAwake
import Derived.Test.YtnmmeaoapfampaaEntSame
namespace Go.Proofs.Ytnmmeaoapfampaa
open Go.RowKit

theorem laid_le {w : World} {cs : List Value} {ls : List (List Ent)} (hn : cs.length = ls.length) (hl : ls.length ≤ 1000) (h : ∀ (i : Nat) (c : Value) (l : List Ent), cs[i]? = some c → ls[i]? = some l → RdE w c l) : RdLE (w.alloc (.cells cs.toArray 25)) (.slice (some ⟨w.heap.size, 0, none⟩) ls.length ls.length) ls := by
  refine ⟨cs, ⟨_, ls.length, rfl, Nat.le_refl _, by unfold maxLen; omega, by omega, .inr ⟨w.heap.size, 0, rfl, by simp, fun j u hj => ?_⟩⟩, fun i c l hc hl => (h i c l hc hl).below ((Below.refl _ _).alloc (Nat.le_refl _) _) (Nat.le_refl _)⟩
  rw [Nat.zero_add, cell_of_row _ w.heap.size j _ 25 (0, 0) (heap_alloc_new w _)]
  simpa using hj
theorem two_le {w : World} {v u : Value} {A B : List Ent} (ha : RdE w v A) (hb : RdE w u B) : RdLE (w.alloc (.cells #[v, u] 25)) (.slice (some ⟨w.heap.size, 0, none⟩) 2 2) [A, B] :=
  laid_le (cs := [v, u]) (ls := [A, B]) rfl (by simp) fun i c l hc hl => by
    match i with
    | 0 => simp at hc hl; subst hc hl; exact ha
    | 1 => simp at hc hl; subst hc hl; exact hb
    | i + 2 => simp at hc
theorem three_le {w : World} {v u x : Value} {A B C : List Ent} (ha : RdE w v A) (hb : RdE w u B) (hc' : RdE w x C) : RdLE (w.alloc (.cells #[v, u, x] 25)) (.slice (some ⟨w.heap.size, 0, none⟩) 3 3) [A, B, C] :=
  laid_le (cs := [v, u, x]) (ls := [A, B, C]) rfl (by simp) fun i c l hc hl => by
    match i with
    | 0 => simp at hc hl; subst hc hl; exact ha
    | 1 => simp at hc hl; subst hc hl; exact hb
    | 2 => simp at hc hl; subst hc hl; exact hc'
    | i + 3 => simp at hc
theorem two_below (w : World) (a b : Obj) : Below w.heap.size w ((w.alloc a).alloc b) := ((Below.refl _ w).alloc (Nat.le_refl _) a).alloc (by simp) b
theorem four_below (w : World) (a b c d : Obj) : Below w.heap.size w ((((w.alloc a).alloc b).alloc c).alloc d) := ((two_below w a b).alloc (by simp; omega) c).alloc (by simp; omega) d
theorem twice_le {w : World} (K : Obj) {v : Value} {L : List Ent} (h : RdE w v L) (a b : ByteArray) (hfa : (⟨⟨#[122, 122]⟩, 5, 1, a⟩ : Ent).fits) (hfb : (⟨⟨#[122, 122]⟩, 5, 1, b⟩ : Ent).fits) :
    RdLE ((((w.alloc K).alloc (.cells #[.string ⟨#[122, 122]⟩, .int .i64 5, .int .i64 1, .string a] 38)).alloc (.cells #[.string ⟨#[122, 122]⟩, .int .i64 5, .int .i64 1, .string b] 38)).alloc (.cells #[.slice (some ⟨w.heap.size + 1, 0, none⟩) 1 1, v, .slice (some ⟨w.heap.size + 1 + 1, 0, none⟩) 1 1] 25)) (.slice (some ⟨w.heap.size + 1 + 1 + 1, 0, none⟩) 3 3) [[⟨⟨#[122, 122]⟩, 5, 1, a⟩], L, [⟨⟨#[122, 122]⟩, 5, 1, b⟩]] := by
  have s1 : (w.alloc K).heap.size = w.heap.size + 1 := by simp
  have h1 : RdE ((w.alloc K).alloc (.cells #[.string ⟨#[122, 122]⟩, .int .i64 5, .int .i64 1, .string a] 38)) (.slice (some ⟨(w.alloc K).heap.size, 0, none⟩) 1 1) [⟨⟨#[122, 122]⟩, 5, 1, a⟩] := ⟨one_entry (w.alloc K) ⟨⟨#[122, 122]⟩, 5, 1, a⟩, fun e he => by rw [List.mem_singleton.1 he]; exact hfa⟩
  rw [s1] at h1
  generalize hw1 : (w.alloc K).alloc (.cells #[.string ⟨#[122, 122]⟩, .int .i64 5, .int .i64 1, .string a] 38) = w1 at *
  have s2 : w1.heap.size = w.heap.size + 1 + 1 := by rw [← hw1]; simp
  have h2 : RdE (w1.alloc (.cells #[.string ⟨#[122, 122]⟩, .int .i64 5, .int .i64 1, .string b] 38)) (.slice (some ⟨w1.heap.size, 0, none⟩) 1 1) [⟨⟨#[122, 122]⟩, 5, 1, b⟩] := ⟨one_entry w1 ⟨⟨#[122, 122]⟩, 5, 1, b⟩, fun e he => by rw [List.mem_singleton.1 he]; exact hfb⟩
  have h3 := h1.below ((Below.refl _ w1).alloc (Nat.le_refl _) (.cells #[.string ⟨#[122, 122]⟩, .int .i64 5, .int .i64 1, .string b] 38)) (Nat.le_refl _)
  have hb1 : Below w.heap.size w w1 := by rw [← hw1]; exact two_below _ _ _
  have h4 := (h.below hb1 (Nat.le_refl _)).below ((Below.refl _ w1).alloc (Nat.le_refl _) (.cells #[.string ⟨#[122, 122]⟩, .int .i64 5, .int .i64 1, .string b] 38)) (Nat.le_refl _)
  rw [s2] at h2
  have h5 := three_le h3 h4 h2
  rwa [show (w1.alloc (.cells #[.string ⟨#[122, 122]⟩, .int .i64 5, .int .i64 1, .string b] 38)).heap.size = w.heap.size + 1 + 1 + 1 by simp [s2]] at h5
theorem mk_zz {ns : List UInt8} {sp : Nat} (hl : ns.length ≤ 1000) (a : ByteArray) : ∀ x ∈ mkB ns sp, x.cmp ⟨⟨#[122, 122]⟩, 5, 1, a⟩ < 0 := by
  intro x hx
  obtain ⟨i, hi, rfl⟩ := (mkB_mem sp hl x).1 hx
  have hu : (entN sp (ns.getD i 0).toNat i).u.data.toList = 107 :: 101 :: 121 :: digL ((ns.getD i 0).toNat % (3 + sp % 40)) := by
    unfold entN
    split <;> simp [keyN]
  unfold Ent.cmp cmpK
  rw [hu]
  simp [cmpL, lex]

set_option maxRecDepth 100000 in
set_option maxHeartbeats 1000000 in
theorem mergeTwice_walkC (HP : MergeC) (HA : ViewC) (v0 : Value) (ns : List UInt8) (a b : ByteArray) (W : World) (w0 : RdB W v0 ns) (wa : a.size ≤ maxLen) (wb : b.size ≤ maxLen) :
    Calls Try.prog 8 #[v0, .string a, .string b] W fun r w' => r = .returned (.bool true) ∧ Below W.heap.size W w' := by
  have HAW := Lib.hid (awake15_any HP HA)
  have HM := Lib.hid HP
  obtain ⟨va, vc, rfl, hc1, hc2⟩ := w0.form
  unfold maxLen at hc2
  have HV0 := Lib.hid w0
  clear w0 HP HA
  by_cases c1 : 60 < ns.length
  · have d1 : decide ((60 : Int) < (ns.length : Int)) = true := by simp; omega
    have d1n : decide (60 < ns.length) = true := by simp; omega
    go_enter Try.func8, Try.ntmps8
    go_wp2_with (go_at_call 10; (refine (HAW.out _).mono ?_); rintro e w9 ⟨rfl, hb9⟩)
    go_ret
    exact ⟨rfl, hb9⟩
  have d1 : decide ((60 : Int) < (ns.length : Int)) = false := by simp; omega
  have d1n : decide (60 < ns.length) = false := by simp; omega
  by_cases c2 : 100 < a.size
  · have d2 : decide ((100 : Int) < (a.size : Int)) = true := by simp; omega
    have d2n : decide (100 < a.size) = true := by simp; omega
    go_enter Try.func8, Try.ntmps8
    go_wp2_with (go_at_call 10; (refine (HAW.out _).mono ?_); rintro e w9 ⟨rfl, hb9⟩)
    go_ret
    exact ⟨rfl, hb9⟩
  have d2 : decide ((100 : Int) < (a.size : Int)) = false := by simp; omega
  have d2n : decide (100 < a.size) = false := by simp; omega
  by_cases c3 : 100 < b.size
  · have d3 : decide ((100 : Int) < (b.size : Int)) = true := by simp; omega
    have d3n : decide (100 < b.size) = true := by simp; omega
    go_enter Try.func8, Try.ntmps8
    go_wp2_with (go_at_call 10; (refine (HAW.out _).mono ?_); rintro e w9 ⟨rfl, hb9⟩)
    go_ret
    exact ⟨rfl, hb9⟩
  have d3 : decide ((100 : Int) < (b.size : Int)) = false := by simp; omega
  have d3n : decide (100 < b.size) = false := by simp; omega
  have HMK := Lib.hid (make12_any _ ns 20 (by omega) W HV0.out (by omega))
  have hsm := may_small (mkB_may ns 20) (by have := mkB_len ns 20; omega)
  have HFT := Lib.hid (mk_fits ns 20)
  have hup := mkB_up ns 20
  have hzz := mk_zz (ns := ns) (sp := 20) (by omega) a
  have hLl := mkB_len ns 20
  generalize mkB ns 20 = L at *
  have HE2 := Lib.hid (show mergeE [L, L] = L from merge_of hup fun x => by simp)
  have HE1 := Lib.hid (show mergeE [L] = L from merge_of hup fun x => by simp)
  have HE3 := Lib.hid (show mergeE [[⟨⟨#[122, 122]⟩, 5, 1, a⟩], L, [⟨⟨#[122, 122]⟩, 5, 1, b⟩]] = L ++ [⟨⟨#[122, 122]⟩, 5, 1, a⟩] from merge_ends hup hzz ((cmp_zero _ _).2 ⟨rfl, rfl, rfl⟩))
  have HS1 := Lib.hid (show SmallE [L].flatten by simpa using hsm)
  have HS2 := Lib.hid (show SmallE [L, L].flatten from ⟨by simp; omega, fun e he => hsm.2 e (by simpa using he)⟩)
  have HS3 := Lib.hid (show SmallE [[⟨⟨#[122, 122]⟩, 5, 1, a⟩], L, [⟨⟨#[122, 122]⟩, 5, 1, b⟩]].flatten from ⟨by simp; omega, fun e he => by
    simp only [List.flatten_cons, List.flatten_nil, List.append_nil, List.mem_append, List.mem_singleton] at he
    rcases he with rfl | he | rfl
    · exact ⟨by show (2 : Nat) ≤ 1000; omega, by show a.size ≤ 1000; omega⟩
    · exact hsm.2 e he
    · exact ⟨by show (2 : Nat) ≤ 1000; omega, by show b.size ≤ 1000; omega⟩⟩)
  have HFA := Lib.hid (show (⟨⟨#[122, 122]⟩, 5, 1, a⟩ : Ent).fits from ⟨show (⟨#[122, 122]⟩ : ByteArray).size ≤ maxLen by decide, wa, show (Lit.int .i64 5).wf = true by decide, show (Lit.int .i64 1).wf = true by decide⟩)
  have HFB := Lib.hid (show (⟨⟨#[122, 122]⟩, 5, 1, b⟩ : Ent).fits from ⟨show (⟨#[122, 122]⟩ : ByteArray).size ≤ maxLen by decide, wb, show (Lit.int .i64 5).wf = true by decide, show (Lit.int .i64 1).wf = true by decide⟩)
  have HLL := Lib.hid (show L.length < 1000000 by omega)
  have HLT := Lib.hid (show L.length < (L ++ [(⟨⟨#[122, 122]⟩, 5, 1, a⟩ : Ent)]).length by simp)
  have HGE := Lib.hid (show (L ++ [(⟨⟨#[122, 122]⟩, 5, 1, a⟩ : Ent)]).getD L.length Ent.none_ = ⟨⟨#[122, 122]⟩, 5, 1, a⟩ by simp [List.getD])
  clear hup hzz hsm
  go_enter Try.func8, Try.ntmps8
  go_wp2_with (first | (go_at_call 10; (refine (HAW.out _).mono ?_); rintro e w9 ⟨rfl, hb9⟩) | (go_at_call 19; (refine HMK.out.mono ?_); rintro e w1 ⟨x1, rfl, ho1, hb1⟩; obtain ⟨la, lc, rfl, hl1, hl2⟩ := ho1.form; have HO1 := Lib.hid (show OwnE w1 0 (.slice la L.length lc) L from own_base ho1 fun _ _ => Nat.zero_le _); have HR1 := Lib.hid (HO1.out.read HFT.out); have HB1 := Lib.hid hb1; clear ho1 hb1) | (go_at_call 13; first | ((refine (HM.out _ [L] _ (one_le HR6.out) (by simp) HS1.out).mono ?_); rintro e w7 ⟨x7, rfl, ho, hb⟩; rw [HE1.out] at ho; have HO7 := Lib.hid (own_monoE ho (Nat.zero_le _)); have D67 := Lib.hid (belowT ((Below.refl _ w6).alloc (Nat.le_refl _) (.cells #[.slice ma L.length mc] 25)) hb); have HM7 := Lib.hid (HM6.out.below D67.out); have HX7 := Lib.hid (HO6.out.below D67.out); have HB7 := Lib.hid (belowT HB6.out D67.out); clear ho hb) | ((refine (HM.out _ [[⟨⟨#[122, 122]⟩, 5, 1, a⟩], L, [⟨⟨#[122, 122]⟩, 5, 1, b⟩]] _ (twice_le (.cells #[.string ⟨#[122, 122]⟩, .int .i64 5, .int .i64 1] 36) HR3.out a b HFA.out HFB.out) (by simp) HS3.out).mono ?_); rintro e w5 ⟨x5, rfl, ho, hb⟩; rw [HE3.out] at ho; obtain ⟨xa, xc, rfl, hx1, hx2⟩ := ho.form; have HO5 := Lib.hid (own_monoE ho (Nat.zero_le _)); have D35 := Lib.hid (belowT (four_below w3 (.cells #[.string ⟨#[122, 122]⟩, .int .i64 5, .int .i64 1] 36) (.cells #[.string ⟨#[122, 122]⟩, .int .i64 5, .int .i64 1, .string a] 38) (.cells #[.string ⟨#[122, 122]⟩, .int .i64 5, .int .i64 1, .string b] 38) (.cells #[.slice (some ⟨w3.heap.size + 1, 0, none⟩) 1 1, .slice la L.length lc, .slice (some ⟨w3.heap.size + 1 + 1, 0, none⟩) 1 1] 25)) hb); have HM5 := Lib.hid (HO3.out.below D35.out); have HL5 := Lib.hid (HO1.out.below (belowT D13.out D35.out)); have HB5 := Lib.hid (belowT HB3.out D35.out); clear ho hb) | ((refine (HM.out _ [L, L] _ (two_le HR1.out HR1.out) (by simp) HS2.out).mono ?_); rintro e w3 ⟨x3, rfl, ho, hb⟩; rw [HE2.out] at ho; obtain ⟨ma, mc, rfl, hm1, hm2⟩ := ho.form; have HO3 := Lib.hid (own_monoE ho (Nat.zero_le _)); have D13 := Lib.hid (belowT ((Below.refl _ w1).alloc (Nat.le_refl _) (.cells #[.slice la L.length lc, .slice la L.length lc] 25)) hb); have HR3 := Lib.hid (HR1.out.below D13.out (Nat.le_refl _)); have HB3 := Lib.hid (belowT HB1.out D13.out); clear ho hb)) | (go_at_call 12; first | ((refine (rsame_ent _ _ L _ HLL.out HO7.out HM7.out).mono ?_); rintro e w8 ⟨rfl, hb⟩; obtain ⟨xg, rfl, hxg, z0, z1, z2, z3⟩ := own_ent (HX7.out.below hb) HLT.out; rw [HGE.out] at z0 z1 z2 z3; have HB8 := Lib.hid (belowT HB7.out hb); clear hb) | ((refine (rsame_ent _ _ L _ HLL.out HM5.out HL5.out).mono ?_); rintro e w6 ⟨rfl, hb⟩; have HM6 := Lib.hid (HM5.out.below hb); have HO6 := Lib.hid (HO5.out.below hb); have HR6 := Lib.hid (HM6.out.read HFT.out); have HB6 := Lib.hid (belowT HB5.out hb); clear hb)))
  go_ret
  exact ⟨rfl, belowT HB8.out hb9⟩
end Go.Proofs.Ytnmmeaoapfampaa
