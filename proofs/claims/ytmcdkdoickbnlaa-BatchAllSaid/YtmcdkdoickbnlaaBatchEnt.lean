/-
  The entries of a batch: batch.Entries.
-/
import Derived.Test.YtmcdkdoickbnlaaOpsNorm
import Derived.Test.YtmcdkdoickbnlaaOpsRNorm
import Derived.Test.YtmcdkdoickbnlaaBatchMay
namespace Go.Proofs.Ytmcdkdoickbnlaa
open Go.RowKit

/-- An operation's entry, as cells. -/
def entC (s : Int) (o : Ope) : List Value := [.string o.u, .int .i64 s, .int .i64 o.k, .string o.v]

/-- The cells of a list of them. -/
def entF (s : Int) (l : List Ope) : List Value := l.flatMap (entC s)

theorem entF_one (s : Int) (l : List Ope) : ∀ u ∈ entF s l, u.oneCell' = true := by
  intro u hu
  obtain ⟨o, _, ho⟩ := List.mem_flatMap.1 hu
  simp only [entC, List.mem_cons, List.not_mem_nil, or_false] at ho
  rcases ho with rfl | rfl | rfl | rfl <;> rfl

theorem entF_app (s : Int) (l m : List Ope) : entF s (l ++ m) = entF s l ++ entF s m := List.flatMap_append

theorem entF_length (s : Int) : ∀ l : List Ope, (entF s l).length = l.length * 4
  | [] => rfl
  | o :: r => by
    have := entF_length s r
    unfold entF at this ⊢
    rw [List.flatMap_cons, List.length_append, this, List.length_cons]
    simp only [entC, List.length_cons, List.length_nil]
    omega

theorem entF_at (s : Int) : ∀ (l : List Ope) (i t : Nat), i < l.length → t < 4 → (entF s l)[i * 4 + t]? = (entC s (l.getD i Ope.none_))[t]?
  | [], i, t, h, _ => by simp at h
  | o :: r, 0, t, _, ht => by
    unfold entF
    rw [List.flatMap_cons, Nat.zero_mul, Nat.zero_add, List.getElem?_append_left (by simp [entC]; omega)]
    rfl
  | o :: r, i + 1, t, h, ht => by
    have ih := entF_at s r i t (by simpa using h) ht
    unfold entF at ih ⊢
    rw [List.flatMap_cons, List.getElem?_append_right (by simp [entC]; omega)]
    have : (i + 1) * 4 + t - (entC s o).length = i * 4 + t := by simp [entC]; omega
    rw [this, ih]
    simp [List.getD]

theorem info_ent : (Try.prog.info? 67).map (fun i => (i.zero, i.size, i.bytes)) = some (some (.agg #[.string ⟨#[]⟩, .int .i64 0, .int .i64 0, .string ⟨#[]⟩]), 4, 48) := by kernel_rfl

/-- One entry, laid by itself. -/
theorem one_ent (w : World) (s : Int) (o : Ope) : Rd (w.alloc (.cells #[.string o.u, .int .i64 s, .int .i64 o.k, .string o.v] 67)) 4 (.slice (some ⟨w.heap.size, 0, none⟩) 1 1) 1 (entF s [o]) := by
  refine ⟨_, 1, rfl, Nat.le_refl _, by unfold maxLen; omega, rfl, .inr ⟨w.heap.size, 0, rfl, by simp, fun j u hj => ?_⟩⟩
  rw [Nat.zero_add, cell_of_row _ w.heap.size j _ 67 (0, 0) (heap_alloc_new w _)]
  simpa [entF, entC] using hj

/-- The call answers the entries of 'l' in memory of its own. -/
def RetE (B : Nat) (w : World) (s : Int) (l : List Ope) (e : Ending) (w' : World) : Prop := ∃ v, e = .returned v ∧ w'.ownsRow B 67 4 v l.length (entF s l) ∧ Below B w w'

theorem entF_more {s : Int} {l : List Ope} {k : Nat} (hk : k < l.length) : entF s (l.take (k + 1)) = entF s (l.take k) ++ entF s [l.getD k Ope.none_] := by
  rw [List.take_succ_eq_append_getElem hk, entF_app]
  simp [List.getD, hk]

set_option maxRecDepth 100000 in
set_option maxHeartbeats 8000000 in
theorem bent_any (s : Int) (v : Value) (l : List Ope) (w : World) (hv : RdO w v l) (hn : l.length ≤ 100000) :
    Calls Try.prog 21 #[batV s v] w (RetE w.heap.size w s (normL l)) := by
  obtain ⟨a, cap, rfl, hc1, hc2⟩ := hv.form
  have hnl := normL_len l
  have HF : Hid (∀ o ∈ normL l, o.fits) := Lib.hid fun o ho => hv.2 o (normL_mem ho)
  have hnorm := bnorm_any (.slice a l.length cap) l _ (hv.below ((Below.refl w.heap.size w).alloc (Nat.le_refl _) (.cells #[.int .i64 s, .slice a l.length cap] 24)) (Nat.le_refl _)) hn
  generalize normL l = N at *
  have HN := Lib.hid hnorm
  clear hnorm hv
  go_enter Try.func21, Try.ntmps21
  go_wp2_with (go_at_call 16; refine HN.out.mono ?_; rintro e w2 ⟨nv, rfl, ho2, hb2⟩; obtain ⟨na, ncap, rfl, hn1, hn2⟩ := ho2.form; have HO2 := Lib.hid (ho2.read HF.out); have b0 := (hb2.cell (p := ⟨w.heap.size, 0, none⟩) (by simp)).trans (by go_simp : _ = some (Value.int .i64 s)); have hy : w.heap.size < w2.heap.size := Nat.lt_of_lt_of_le (by simp) hb2.size; have HB2 := Lib.hid (((Below.refl w.heap.size w).alloc (Nat.le_refl _) _).trans (hb2.mono (by simp))); clear ho2 hb2)
  unfold maxLen at hn2
  go_loopw [3, 10] (fun u i wr => ∃ (k : Nat) (u' : Value), k ≤ N.length ∧ u' = u ∧ i = .int .i64 k ∧ wr.ownsRow w2.heap.size 67 4 u' (N.take k).length (entF s (N.take k)) ∧ Below w2.heap.size w2 wr) (fun _ i _ => N.length - (intOf i).toNat)
  case atStart => exact ⟨0, _, Nat.zero_le _, rfl, rfl, World.ownsRow_nil _ _ _ _, Below.refl _ _⟩
  case round =>
    obtain ⟨k, u, hk, rfl, rfl, hu, hb⟩ := hrel
    have HU := Lib.hid hu
    have HB := Lib.hid hb
    clear hu hb
    by_cases hlt : k < N.length
    · obtain ⟨bn, on, rfl, hbn, hcn⟩ := HO2.out.at_ (by intro h; subst h; simp at hlt)
      obtain ⟨d0, d1, d2⟩ := hcn k hlt
      have g0 := (HB.out.cell (p := ⟨bn, on + k * 3, none⟩) hbn).trans d0
      have g1 := (HB.out.cell (p := ⟨bn, on + k * 3 + 1, none⟩) hbn).trans d1
      have g2 := (HB.out.cell (p := ⟨bn, on + k * 3 + 2, none⟩) hbn).trans d2
      have c0 := (HB.out.cell (p := ⟨w.heap.size, 0, none⟩) hy).trans b0
      have hy2 : w.heap.size < wr.heap.size := Nat.lt_of_lt_of_le hy HB.out.size
      have HM := Lib.hid (entF_more (s := s) hlt)
      have htl : (N.take k).length = k := by rw [List.length_take]; omega
      have htl2 : (N.take (k + 1)).length = k + 1 := by rw [List.length_take]; omega
      have HT2 := Lib.hid htl2
      rw [htl] at HU
      clear d0 d1 d2 hcn htl htl2
      generalize N.getD k Ope.none_ = o at *
      go_wp2_with (at_builtin; refine wpList_append_rd rfl (.tmp 14) (.tmp 25) 39 rfl w2.heap.size 67 4 48 (.agg #[.string ⟨#[]⟩, .int .i64 0, .int .i64 0, .string ⟨#[]⟩]) Try.underlying39 info_ent rfl (by decide) _ _ _ 1 _ (entF s [o]) rfl rfl (World.ownsRow.alloc (World.ownsRow.alloc HU.out _) _) ?rdA (entF_one _ _) ?bbA ?l1A ?l2A ?kkA)
      case rdA =>
        have h := one_ent (wr.alloc (.cells #[.int .i64 o.k, .string o.u, .string o.v] 45)) s o
        have hs : (wr.alloc (.cells #[.int .i64 o.k, .string o.u, .string o.v] 45)).heap.size = wr.heap.size + 1 := by simp
        rw [hs] at h
        exact h
      case bbA => (have := HB.out.size; simp; omega)
      case l1A => omega
      case l2A => (unfold maxLen; omega)
      case kkA =>
        intro vA wA hown hBk
        have hb := hBk w2.heap.size w2 (Nat.le_refl _) ((HB.out.alloc HB.out.size _).alloc (by have := HB.out.size; simp; omega) _)
        have HO := Lib.hid hown
        have HBA := Lib.hid hb
        clear hown hBk hb
        go_wp2
        refine ⟨⟨k + 1, vA, by omega, rfl, by go_num, ?_, HBA.out⟩, ?_⟩
        · rw [HT2.out, HM.out]; exact HO.out
        · simp [intOf]; omega
    · obtain rfl : k = N.length := by omega
      go_wp2
      go_ret
      refine ⟨_, rfl, ?_, HB2.out.trans (HB.out.mono HB2.out.size)⟩
      have hu := HU.out
      rw [List.take_length] at hu
      exact own_mono hu HB2.out.size
end Go.Proofs.Ytmcdkdoickbnlaa
