import Derived.Test.YtnmmeaoapfampaaEntLL
import Derived.Test.YtnmmeaoapfampaaAppKeep
import Derived.Test.YtnmmeaoapfampaaSeekMath
import Derived.Test.YtnmmeaoapfampaaOwnEnt
import Derived.Test.YtnmmeaoapfampaaKeyCmp
import Derived.Test.YtnmmeaoapfampaaSetCells
import Derived.Test.YtnmmeaoapfampaaShift
import Derived.Shelf.SlSortCmp.KitK

/-
  Rows of entries: parts of a slice that is read; a row made; a row cloned.
-/
namespace Go.Proofs.Ytnmmeaoapfampaa
open Go.RowKit

theorem entFlat_drop : ∀ (l : List Ent) (m : Nat), (l.drop m).flatMap Ent.cells = (l.flatMap Ent.cells).drop (m * 4)
  | l, 0 => by simp
  | [], m + 1 => by simp
  | o :: r, m + 1 => by
    rw [List.drop_succ_cons, entFlat_drop r m, List.flatMap_cons, show (m + 1) * 4 = o.cells.length + m * 4 from by simp [Ent.cells]; omega, ← List.drop_drop, List.drop_left' rfl]
theorem entFlat_take (l : List Ent) (m : Nat) : (l.take m).flatMap Ent.cells = (l.flatMap Ent.cells).take (m * 4) := by
  rcases Nat.le_total m l.length with h | h
  · have h1 : l.flatMap Ent.cells = (l.take m).flatMap Ent.cells ++ (l.drop m).flatMap Ent.cells := by rw [← List.flatMap_append, List.take_append_drop]
    rw [h1, List.take_left' (by rw [flat_length, List.length_take, Nat.min_eq_left h])]
  · rw [List.take_of_length_le h, List.take_of_length_le (by rw [flat_length]; omega)]
/-- A part of what is read: from 'm' on; the first 'n'. Where a part begins of which nothing is left makes no odds. -/
theorem RdE.from_ {w : World} {b off o' cap c' n' : Nat} {xs : List Ent} (h : RdE w (.slice (some ⟨b, off, none⟩) xs.length cap) xs) (m : Nat) (hm : m ≤ xs.length) (ho : m < xs.length → o' = off + m * 4) (hc : c' = cap - m) (hn : n' = xs.length - m) :
    RdE w (.slice (some ⟨b, o', none⟩) n' c') (xs.drop m) := by
  obtain ⟨⟨a', cap', hv, h1, h2, h0, h3⟩, h6⟩ := h
  cases hv
  refine ⟨⟨_, _, by rw [List.length_drop, hn], by rw [List.length_drop]; omega, by omega, flat_length _, ?_⟩, fun x hx => h6 x (List.mem_of_mem_drop hx)⟩
  by_cases h0' : xs.length - m = 0
  · exact .inl ⟨by rw [List.length_drop]; exact h0', fun e => by cases e⟩
  · rcases h3 with ⟨h3, _⟩ | ⟨b', off', hb, h4, h5⟩
    · omega
    · cases hb
      refine .inr ⟨b, off + m * 4, by rw [ho (by omega)], h4, fun j u hj => ?_⟩
      rw [entFlat_drop, List.getElem?_drop] at hj
      rw [Nat.add_assoc]
      exact h5 _ u hj
theorem RdE.front {w : World} {a : Option Addr} {cap : Nat} {xs : List Ent} (h : RdE w (.slice a xs.length cap) xs) (n : Nat) (hn : n ≤ xs.length) : RdE w (.slice a n cap) (xs.take n) := by
  obtain ⟨⟨a', cap', hv, h1, h2, h0, h3⟩, h6⟩ := h
  cases hv
  have hlen : (xs.take n).length = n := by rw [List.length_take]; omega
  refine ⟨⟨_, _, by rw [hlen], by rw [hlen]; omega, by omega, flat_length _, ?_⟩, fun x hx => h6 x (List.mem_of_mem_take hx)⟩
  rcases h3 with ⟨h3, h4⟩ | ⟨b, off, hb, h4, h5⟩
  · exact .inl ⟨by rw [hlen]; omega, h4⟩
  · refine .inr ⟨b, off, hb, h4, fun j u hj => ?_⟩
    rw [entFlat_take, List.getElem?_take] at hj
    split at hj
    · exact h5 _ u hj
    · cases hj
theorem RdLE.front {w : World} {a : Option Addr} {cap : Nat} {xs : List (List Ent)} (h : RdLE w (.slice a xs.length cap) xs) (n : Nat) (hn : n ≤ xs.length) : RdLE w (.slice a n cap) (xs.take n) := by
  obtain ⟨cs, ⟨a', cap', hv, h1, h2, h0, h3⟩, h6⟩ := h
  cases hv
  have hlen : (xs.take n).length = n := by rw [List.length_take]; omega
  refine ⟨cs.take n, ⟨_, _, by rw [hlen], by rw [hlen]; omega, by omega, by rw [hlen, List.length_take]; omega, ?_⟩, fun i c l hc hl => ?_⟩
  · rcases h3 with ⟨h3, h4⟩ | ⟨b, off, hb, h4, h5⟩
    · exact .inl ⟨by rw [hlen]; omega, h4⟩
    · refine .inr ⟨b, off, hb, h4, fun j u hj => ?_⟩
      rw [List.getElem?_take] at hj
      split at hj
      · exact h5 _ u hj
      · cases hj
  · rw [List.getElem?_take] at hc hl
    split at hc
    · rename_i hi
      rw [if_pos hi] at hl
      exact h6 i c l hc hl
    · cases hc
theorem RdLE.from_ {w : World} {b off o' cap c' n' : Nat} {xs : List (List Ent)} (h : RdLE w (.slice (some ⟨b, off, none⟩) xs.length cap) xs) (m : Nat) (hm : m ≤ xs.length) (ho : m < xs.length → o' = off + m) (hc : c' = cap - m) (hn : n' = xs.length - m) :
    RdLE w (.slice (some ⟨b, o', none⟩) n' c') (xs.drop m) := by
  obtain ⟨cs, ⟨a', cap', hv, h1, h2, h0, h3⟩, h6⟩ := h
  cases hv
  refine ⟨cs.drop m, ⟨_, _, by rw [List.length_drop, hn], by rw [List.length_drop]; omega, by omega, by rw [List.length_drop, List.length_drop, h0, Nat.mul_one, Nat.mul_one], ?_⟩, fun i c l hc hl => ?_⟩
  · by_cases h0' : xs.length - m = 0
    · exact .inl ⟨by rw [List.length_drop]; exact h0', fun e => by cases e⟩
    · rcases h3 with ⟨h3, _⟩ | ⟨b', off', hb, h4, h5⟩
      · omega
      · cases hb
        refine .inr ⟨b, off + m, by rw [ho (by omega)], h4, fun j u hj => ?_⟩
        rw [List.getElem?_drop] at hj
        rw [Nat.add_assoc]
        exact h5 _ u hj
  · rw [List.getElem?_drop] at hc hl
    exact h6 _ c l hc hl

theorem run_make_entries (n : Nat) (hn : n < 1000000) (w : World) : (Instr.makeSlice 25 (.int .i64 0) (.int .i64 (n : Int))).run Try.prog w = .ok (.slice (some ⟨w.heap.size, 0, none⟩) 0 n) (w.alloc (.cells (madeCells #[.string ⟨#[]⟩, .int .i64 0, .int .i64 0, .string ⟨#[]⟩] (n * 4)) 38)) := by
  obtain ⟨i0, hi, hz0, hz1, hz2⟩ := info_parts info_ent
  have h := run_make (P := Try.prog) w 25 38 i0 _ Try.underlying25 hi hz0 .i64 .i64 0 (n : Int) (by omega) (by omega) (by rw [hz2]; omega) (by omega)
  rw [hz1, Int.toNat_natCast] at h
  exact h
theorem eqn_entries (w : World) : (binOp .eql 25 (.slice none 0 0) (.slice none 0 0)).run Try.prog w = .ok (.bool true) w := by kernel_rfl
theorem eqs_entries (ad : Addr) (n cap : Nat) (w : World) : (binOp .eql 25 (.slice (some ad) n cap) (.slice none 0 0)).run Try.prog w = .ok (.bool false) w := by kernel_rfl
set_option maxRecDepth 100000 in
set_option maxHeartbeats 1000000 in
theorem clone_entries (w : World) (v : Value) (es : List Ent) (h : RdE w v es) (hn : es.length ≤ 1000) :
    Calls Try.prog 30 #[v] w fun e w' => ∃ v', e = .returned v' ∧ OwnE w' w.heap.size v' es ∧ Below w.heap.size w w' := by
  have hfit := h.2
  obtain ⟨a, cap, rfl, h1, h2, h3, h4⟩ := h.1
  by_cases hnil : a = none
  · subst hnil
    rcases h4 with ⟨hn0, hc⟩ | ⟨b, off, hb, _⟩
    · obtain rfl := hc rfl
      obtain rfl : es = [] := List.eq_nil_of_length_eq_zero hn0
      have hq := eqn_entries
      go_enter Try.func30, Try.ntmps30
      go_wp2
      go_ret
      exact ⟨_, rfl, World.ownsRow_nil _ _ _ _, Below.refl _ _⟩
    · cases hb
  · obtain ⟨ad, rfl⟩ := Option.ne_none_iff_exists'.1 hnil
    have HRD := Lib.hid (Rd.below h.1 ((Below.refl _ w).alloc (Nat.le_refl _) (.cells #[] 38)) (Nat.le_refl _))
    have HROW : Hid ((w.alloc (.cells #[] 38)).ownsRow w.heap.size 38 4 (.slice (some ⟨w.heap.size, 0, none⟩) 0 0) 0 []) := Lib.hid (World.ownsRow_made w #[] 0 (Nat.le_refl _) (Nat.zero_le _) rfl)
    have hq := eqs_entries ad es.length cap
    clear h h3 h4 hfit
    go_enter Try.func30, Try.ntmps30
    go_wp2_with (at_builtin; refine wpList_append_rd rfl (.tmp 5) (.tmp 6) 25 rfl w.heap.size 38 4 48 (.agg #[.string ⟨#[]⟩, .int .i64 0, .int .i64 0, .string ⟨#[]⟩]) Try.underlying25 info_ent rfl (by decide) (.slice (some ⟨w.heap.size, 0, none⟩) 0 0) _ 0 es.length [] (es.flatMap Ent.cells) rfl rfl HROW.out ?rdA (entFlat_one _) ?bbA ?l1A ?l2A ?kkA)
    case rdA => exact HRD.out
    case bbA => simp
    case l1A => omega
    case l2A => (unfold maxLen; omega)
    case kkA =>
      intro v1 w1 hown hBk
      have HB := Lib.hid (hBk w.heap.size w (Nat.le_refl _) ((Below.refl _ _).alloc (Nat.le_refl _) _))
      have HO := Lib.hid (show OwnE w1 w.heap.size v1 es by simpa [OwnE] using hown)
      clear hown hBk
      go_wp2
      go_ret
      exact ⟨v1, rfl, HO.out, HB.out⟩
end Go.Proofs.Ytnmmeaoapfampaa

/-
  Chapter 14: plain facts on putting entries in order so that of alike keys the one that came first stays ahead.
-/
namespace Go.Proofs.Ytnmmeaoapfampaa
open Go.RowKit

theorem cmp_le_trans {a b c : Ent} (h1 : a.cmp b ≤ 0) (h2 : b.cmp c ≤ 0) : a.cmp c ≤ 0 := by
  have h := cmpK_three a.u.data.toList a.s a.k b.u.data.toList b.s b.k c.u.data.toList c.s c.k
  have s1 := cmpK_sgn a.u.data.toList a.s a.k b.u.data.toList b.s b.k
  have s2 := cmpK_sgn b.u.data.toList b.s b.k c.u.data.toList c.s c.k
  unfold Ent.cmp at *
  unfold Three Sgn at *
  omega
theorem cmp_lt_le {a b c : Ent} (h1 : a.cmp b < 0) (h2 : b.cmp c ≤ 0) : a.cmp c < 0 := by
  have h := cmpK_three a.u.data.toList a.s a.k b.u.data.toList b.s b.k c.u.data.toList c.s c.k
  have s1 := cmpK_sgn a.u.data.toList a.s a.k b.u.data.toList b.s b.k
  have s2 := cmpK_sgn b.u.data.toList b.s b.k c.u.data.toList c.s c.k
  unfold Ent.cmp at *
  unfold Three Sgn at *
  omega
theorem cmp_le_lt {a b c : Ent} (h1 : a.cmp b ≤ 0) (h2 : b.cmp c < 0) : a.cmp c < 0 := by
  have h := cmpK_three a.u.data.toList a.s a.k b.u.data.toList b.s b.k c.u.data.toList c.s c.k
  have s1 := cmpK_sgn a.u.data.toList a.s a.k b.u.data.toList b.s b.k
  have s2 := cmpK_sgn b.u.data.toList b.s b.k c.u.data.toList c.s c.k
  unfold Ent.cmp at *
  unfold Three Sgn at *
  omega
theorem cmp_ge {a b : Ent} (h : ¬ a.cmp b < 0) : b.cmp a ≤ 0 := by
  have := cmp_back a b
  omega
theorem cmp_eq_trans {a b c : Ent} (h1 : a.cmp b = 0) (h2 : a.cmp c = 0) : b.cmp c = 0 := by
  have h3 := cmp_back a b
  have h4 := cmp_back a c
  have h5 := cmp_le_trans (a := b) (b := a) (c := c) (by omega) (by omega)
  have h6 := cmp_le_trans (a := c) (b := a) (c := b) (by omega) (by omega)
  have h7 := cmp_back b c
  omega

/-- Of one key? -/
def same (x y : Ent) : Bool := decide (x.cmp y = 0)
/-- The same entries, those of one key in the same order. -/
def Stab (a b : List Ent) : Prop := a.Perm b ∧ ∀ x, a.filter (same x) = b.filter (same x)
/-- In order. -/
def Le (l : List Ent) : Prop := l.Pairwise fun a b => a.cmp b ≤ 0

theorem Stab.refl (a : List Ent) : Stab a a := ⟨List.Perm.refl _, fun _ => rfl⟩
theorem Stab.symm {a b : List Ent} (h : Stab a b) : Stab b a := ⟨h.1.symm, fun x => (h.2 x).symm⟩
theorem Stab.trans {a b c : List Ent} (h : Stab a b) (k : Stab b c) : Stab a c := ⟨h.1.trans k.1, fun x => (h.2 x).trans (k.2 x)⟩
theorem Stab.app {a b c d : List Ent} (h : Stab a b) (k : Stab c d) : Stab (a ++ c) (b ++ d) := ⟨h.1.append k.1, fun x => by rw [List.filter_append, List.filter_append, h.2 x, k.2 x]⟩
theorem Stab.len {a b : List Ent} (h : Stab a b) : a.length = b.length := h.1.length_eq
theorem Stab.mem {a b : List Ent} (h : Stab a b) {x : Ent} : x ∈ a ↔ x ∈ b := h.1.mem_iff
/-- Two parts of which no key is in both change places. -/
theorem Stab.swap {a b : List Ent} (h : ∀ x ∈ a, ∀ y ∈ b, x.cmp y ≠ 0) : Stab (a ++ b) (b ++ a) := by
  refine ⟨List.perm_append_comm, fun z => ?_⟩
  rw [List.filter_append, List.filter_append]
  by_cases ha : a.filter (same z) = []
  · rw [ha, List.nil_append, List.append_nil]
  · by_cases hb : b.filter (same z) = []
    · rw [hb, List.nil_append, List.append_nil]
    · exfalso
      obtain ⟨x, hx⟩ := List.exists_mem_of_ne_nil _ ha
      obtain ⟨y, hy⟩ := List.exists_mem_of_ne_nil _ hb
      rw [List.mem_filter] at hx hy
      exact h x hx.1 y hy.1 (cmp_eq_trans (of_decide_eq_true hx.2) (of_decide_eq_true hy.2))

theorem Le.nil : Le [] := List.Pairwise.nil
theorem Le.one (x : Ent) : Le [x] := List.pairwise_singleton _ _
theorem Le.app {a b : List Ent} (ha : Le a) (hb : Le b) (h : ∀ x ∈ a, ∀ y ∈ b, x.cmp y ≤ 0) : Le (a ++ b) := List.pairwise_append.2 ⟨ha, hb, h⟩
theorem Le.left {a b : List Ent} (h : Le (a ++ b)) : Le a := (List.pairwise_append.1 h).1
theorem Le.right {a b : List Ent} (h : Le (a ++ b)) : Le b := (List.pairwise_append.1 h).2.1
theorem Le.mid {a b : List Ent} (h : Le (a ++ b)) : ∀ x ∈ a, ∀ y ∈ b, x.cmp y ≤ 0 := (List.pairwise_append.1 h).2.2
theorem Le.le_last {a : List Ent} {y : Ent} (h : Le (a ++ [y])) : ∀ x ∈ a ++ [y], x.cmp y ≤ 0 := by
  intro x hx
  rcases List.mem_append.1 hx with h1 | h1
  · exact h.mid x h1 y (by simp)
  · rw [List.mem_singleton.1 h1, cmp_self]; omega
theorem Le.first_le {b : List Ent} {y : Ent} (h : Le (y :: b)) : ∀ x ∈ y :: b, y.cmp x ≤ 0 := by
  intro x hx
  rcases List.mem_cons.1 hx with rfl | h1
  · rw [cmp_self]; omega
  · exact (List.pairwise_cons.1 h).1 x h1

/-- An entry laid into what is in order, behind those not above it and ahead of those above it. -/
theorem ins_le {A B : List Ent} {x : Ent} (h : Le (A ++ B)) (hA : ∀ y ∈ A, y.cmp x ≤ 0) (hB : ∀ y ∈ B, x.cmp y < 0) : Le (A ++ x :: B) := by
  refine Le.app h.left (List.pairwise_cons.2 ⟨fun y hy => Int.le_of_lt (hB y hy), h.right⟩) fun u hu v hv => ?_
  rcases List.mem_cons.1 hv with rfl | hv
  · exact hA u hu
  · exact h.mid u hu v hv
theorem ins_stab {X A B : List Ent} {x : Ent} (h : Stab X (A ++ B)) (hB : ∀ y ∈ B, x.cmp y < 0) : Stab (X ++ [x]) (A ++ x :: B) := by
  have h1 : Stab (X ++ [x]) (A ++ B ++ [x]) := h.app (Stab.refl _)
  have h2 : Stab (B ++ [x]) ([x] ++ B) := Stab.swap fun y hy z hz => by
    rw [List.mem_singleton.1 hz]
    have := hB y hy
    have := cmp_back x y
    omega
  refine h1.trans ?_
  rw [List.append_assoc]
  exact (Stab.refl A).app h2
/-- .. and ahead of those not below it. -/
theorem ins_le' {A B : List Ent} {x : Ent} (h : Le (A ++ B)) (hA : ∀ y ∈ A, y.cmp x < 0) (hB : ∀ y ∈ B, x.cmp y ≤ 0) : Le (A ++ x :: B) := by
  refine Le.app h.left (List.pairwise_cons.2 ⟨fun y hy => hB y hy, h.right⟩) fun u hu v hv => ?_
  rcases List.mem_cons.1 hv with rfl | hv
  · exact Int.le_of_lt (hA u hu)
  · exact h.mid u hu v hv
theorem ins_stab' {A B : List Ent} {x : Ent} (hA : ∀ y ∈ A, y.cmp x < 0) : Stab (x :: (A ++ B)) (A ++ x :: B) := by
  have h2 : Stab ([x] ++ A) (A ++ [x]) := Stab.swap fun z hz y hy => by
    rw [List.mem_singleton.1 hz]
    have := hA y hy
    have := cmp_back x y
    omega
  have := h2.app (Stab.refl B)
  simpa using this
/-- Two parts that are in order, cut and laid anew. -/
theorem halves {x1 x2 y1 y2 z1 z2 : List Ent} (hx : Le (x1 ++ x2)) (hy : Le (y1 ++ y2)) (h1 : ∀ u ∈ x1, ∀ v ∈ y2, u.cmp v ≤ 0) (h2 : ∀ u ∈ y1, ∀ v ∈ x2, u.cmp v < 0)
    (hz1 : Le z1) (hz2 : Le z2) (hs1 : Stab (x1 ++ y1) z1) (hs2 : Stab (x2 ++ y2) z2) : Le (z1 ++ z2) ∧ Stab ((x1 ++ x2) ++ (y1 ++ y2)) (z1 ++ z2) := by
  constructor
  · refine Le.app hz1 hz2 fun u hu v hv => ?_
    rcases List.mem_append.1 (hs1.mem.2 hu) with a | a <;> rcases List.mem_append.1 (hs2.mem.2 hv) with b | b
    · exact hx.mid u a v b
    · exact h1 u a v b
    · exact Int.le_of_lt (h2 u a v b)
    · exact hy.mid u a v b
  · have h3 : Stab (x2 ++ y1) (y1 ++ x2) := Stab.swap fun v hv u hu => by
      have := h2 u hu v hv
      have := cmp_back u v
      omega
    have h4 := ((Stab.refl x1).app h3).app (Stab.refl y2)
    have h5 := hs1.app hs2
    simp only [List.append_assoc] at h4 h5 ⊢
    exact h4.trans h5
theorem le_at {l : List Ent} (h : Le l) {i j : Nat} (hij : i < j) (hj : j < l.length) : (l.getD i Ent.none_).cmp (l.getD j Ent.none_) ≤ 0 := by
  have := (List.pairwise_iff_getElem.1 h) i j (by omega) hj hij
  simpa [List.getD, hj, show i < l.length by omega] using this

/-- In order in each part of so many. -/
def Blocks (s : Nat) (l : List Ent) : Prop := ∀ i j, i < j → j < l.length → i / s = j / s → (l.getD i Ent.none_).cmp (l.getD j Ent.none_) ≤ 0
theorem Blocks.nil (s : Nat) : Blocks s [] := fun i j _ h => by simp at h
theorem Blocks.all {s : Nat} {l : List Ent} (h : Blocks s l) (hs : l.length ≤ s) : Le l := by
  refine List.pairwise_iff_getElem.2 fun i j hi hj hij => ?_
  have := h i j hij hj (by rw [Nat.div_eq_of_lt (by omega), Nat.div_eq_of_lt (by omega)])
  simpa [List.getD, hi, hj] using this
theorem getD_left {a b : List Ent} {i : Nat} (h : i < a.length) : (a ++ b).getD i Ent.none_ = a.getD i Ent.none_ := by
  simp [List.getD, List.getElem?_append_left h]
theorem getD_right {a b : List Ent} {i : Nat} (h : a.length ≤ i) : (a ++ b).getD i Ent.none_ = b.getD (i - a.length) Ent.none_ := by
  simp [List.getD, List.getElem?_append_right h]
theorem getD_at {a b : List Ent} {x : Ent} {i : Nat} (h : i = a.length) : (a ++ x :: b).getD i Ent.none_ = x := by
  rw [getD_right (by omega), h, Nat.sub_self]; rfl
theorem Blocks.snoc {s t : Nat} {D S : List Ent} (h : Blocks s D) (hs : Le S) (hd : D.length = s * t) (hl : S.length ≤ s) (hs0 : 0 < s) : Blocks s (D ++ S) := by
  intro i j hij hj he
  rw [List.length_append] at hj
  by_cases h1 : j < D.length
  · rw [getD_left (by omega), getD_left h1]
    exact h i j hij h1 he
  · have hjt : j / s = t := by
      refine Nat.div_eq_of_lt_le ?_ ?_
      · rw [Nat.mul_comm]; omega
      · rw [Nat.mul_comm, Nat.mul_add]; omega
    have hit : ¬ i < D.length := by
      intro h2
      have : i / s < t := (Nat.div_lt_iff_lt_mul hs0).2 (by rw [Nat.mul_comm]; omega)
      omega
    rw [getD_right (by omega), getD_right (by omega)]
    exact le_at hs (by omega) (by omega)
/-- One part of it. -/
theorem Blocks.part {s t : Nat} {D S R : List Ent} (h : Blocks s (D ++ (S ++ R))) (hd : D.length = s * t) (hl : S.length ≤ s) : Le S := by
  refine List.pairwise_iff_getElem.2 fun i j hi hj hij => ?_
  have hd2 : ∀ k, k < S.length → (D.length + k) / s = t := fun k hk => by
    refine Nat.div_eq_of_lt_le ?_ ?_
    · rw [Nat.mul_comm]; omega
    · rw [Nat.mul_comm, Nat.mul_add]; omega
  have := h (D.length + i) (D.length + j) (by omega) (by simp; omega) (by rw [hd2 i hi, hd2 j hj])
  have hat : ∀ k, k < S.length → (D ++ (S ++ R)).getD (D.length + k) Ent.none_ = S.getD k Ent.none_ := fun k hk => by
    rw [getD_right (a := D) (by omega), Nat.add_sub_cancel_left, getD_left hk]
  rw [hat i hi, hat j hj] at this
  simpa [List.getD, hi, hj] using this
end Go.Proofs.Ytnmmeaoapfampaa

/-
  Entries in a row of the call's own that is put in order: worlds that a compare leaves, two entries that change places.
-/
namespace Go.Proofs.Ytnmmeaoapfampaa
open Go.RowKit

/-- The row, from block 'B' on, holds the entries 'l'; what lay below is as it was. -/
structure SL (B : Nat) (w0 : World) (a : Option Addr) (cap n : Nat) (l : List Ent) (W : World) : Prop where
  len : l.length = n
  below : Below B w0 W
  le : B ≤ W.heap.size
  own : OwnE W B (.slice a n cap) l
  fits : ∀ e ∈ l, e.fits
section
variable {B g : Nat} {w0 W : World} {a : Option Addr} {cap n : Nat} {l : List Ent}
theorem SL.then (h : SL B w0 a cap n l W) {W' : World} (hb : Below W.heap.size W W') : SL B w0 a cap n l W' :=
  ⟨h.len, h.below.trans (hb.mono h.le), Nat.le_trans h.le hb.size, OwnE.below h.own hb, h.fits⟩
theorem SL.shift (h : SL B w0 a cap n l W) (m : Nat) (os : Array Obj) : SL B w0 a cap n l (shiftW W m os) := h.then (shift_below W m os)
theorem SL.drew (h : SL B w0 a cap n l W) : SL B w0 a cap n l W.drew := h.then (Below.refl _ _).drew
/-- Where it lies. -/
theorem SL.at_ (h : SL B w0 a cap n l W) {i : Nat} (hi : i < n) : ∃ g, a = some ⟨g, 0, none⟩ ∧ B ≤ g ∧ ∃ cur, W.heap[g]? = some (.cells cur 38 (0, 0)) ∧ cur.size = cap * 4 ∧ n ≤ cap ∧ cur.toList.take (n * 4) = l.flatMap Ent.cells := by
  rcases h.own.2 with ⟨h1, h2⟩ | ⟨g, cap', cur, hv, hb, hg, hn, hm, hs, ht⟩
  · rw [h.len] at h2
    omega
  · cases hv
    exact ⟨g, rfl, hb, cur, hg, hs, hn, by rw [← ht]⟩
theorem SL.cells (h : SL B w0 (some ⟨g, 0, none⟩) cap n l W) {i : Nat} (hi : i < n) : W.cell? ⟨g, i * 4, none⟩ = some (.string (l.getD i Ent.none_).u) ∧ W.cell? ⟨g, i * 4 + 1, none⟩ = some (.int .i64 (l.getD i Ent.none_).s) ∧ W.cell? ⟨g, i * 4 + 2, none⟩ = some (.int .i64 (l.getD i Ent.none_).k) ∧ W.cell? ⟨g, i * 4 + 3, none⟩ = some (.string (l.getD i Ent.none_).v) := by
  have ho := own_monoE h.own (Nat.zero_le B)
  rw [← h.len] at ho
  obtain ⟨g', he, _, c⟩ := own_ent ho (k := i) (by rw [h.len]; exact hi)
  cases he
  exact c
theorem SL.free (h : SL B w0 (some ⟨g, 0, none⟩) cap n l W) (o : Nat) {i : Nat} (hi : i < n) : W.frozen? ⟨g, o, none⟩ = false := by
  obtain ⟨g', he, _, cur, hg, _⟩ := h.at_ hi
  cases he
  exact blk_free hg
theorem SL.load (h : SL B w0 (some ⟨g, 0, none⟩) cap n l W) {i : Nat} (hi : i < n) (P : Program) : Sem.run P (loadCellsFrom ⟨g, i * 4, none⟩ 0 4 #[]) W = .ok (l.getD i Ent.none_).cells.toArray W := by
  obtain ⟨c0, c1, c2, c3⟩ := h.cells hi
  refine run_loadCellsFrom_list P _ _ _ 4 rfl fun c v hv => ?_
  have hc : c < 4 := (List.getElem?_eq_some_iff.1 hv).1
  obtain rfl | rfl | rfl | rfl : c = 0 ∨ c = 1 ∨ c = 2 ∨ c = 3 := by omega
  · cases hv; exact c0
  · cases hv; exact c1
  · cases hv; exact c2
  · cases hv; exact c3
theorem SL.fit (h : SL B w0 a cap n l W) {i : Nat} (hi : i < n) : (l.getD i Ent.none_).fits := fits_at h.fits i (by rw [h.len]; exact hi)
/-- Two entries change places. -/
def swpE (l : List Ent) (i j : Nat) : List Ent := (l.set i (l.getD j Ent.none_)).set j (l.getD i Ent.none_)
theorem swp_len (l : List Ent) (i j : Nat) : (swpE l i j).length = l.length := by unfold swpE; simp
theorem swp_parts {P M Q : List Ent} {x y : Ent} {i j : Nat} (hi : i = P.length) (hj : j = P.length + 1 + M.length) : swpE (P ++ x :: (M ++ y :: Q)) i j = P ++ y :: (M ++ x :: Q) := by
  have e1 : (P ++ x :: (M ++ y :: Q)).getD i Ent.none_ = x := getD_at hi
  have e2 : (P ++ x :: (M ++ y :: Q)).getD j Ent.none_ = y := by
    have : P ++ x :: (M ++ y :: Q) = (P ++ x :: M) ++ y :: Q := by simp
    rw [this]
    exact getD_at (by simp; omega)
  unfold swpE
  rw [e1, e2, hi, List.set_append_right _ _ (Nat.le_refl _), Nat.sub_self, List.set_cons_zero, hj, List.set_append_right _ _ (by omega), show P.length + 1 + M.length - P.length = M.length + 1 by omega, List.set_cons_succ, List.set_append_right _ _ (Nat.le_refl _), Nat.sub_self, List.set_cons_zero]
theorem swp_comm (l : List Ent) {i j : Nat} : swpE l i j = swpE l j i := by
  unfold swpE
  by_cases h : i = j
  · subst h; rfl
  · rw [List.set_comm _ _ h]
theorem flat_set {l : List Ent} {i : Nat} {e : Ent} (hi : i < l.length) {j : Nat} (hj : j < l.length * 4) :
    ((l.set i e).flatMap Ent.cells)[j]? = if i * 4 ≤ j ∧ j < i * 4 + 4 then e.cells[j - i * 4]? else (l.flatMap Ent.cells)[j]? := by
  obtain ⟨q, r, hr, rfl⟩ : ∃ q r, r < 4 ∧ j = q * 4 + r := ⟨j / 4, j % 4, Nat.mod_lt _ (by decide), by omega⟩
  rw [flat_at _ q r (by rw [List.length_set]; omega) hr, flat_at l q r (by omega) hr]
  by_cases hq : q = i
  · subst hq
    rw [if_pos (by omega), Nat.add_sub_cancel_left]
    simp [List.getD, hi]
  · rw [if_neg (by omega)]
    simp [List.getD, List.getElem?_set_ne (Ne.symm hq)]
theorem own_set {W : World} {B g cap : Nat} {l : List Ent} (h : OwnE W B (.slice (some ⟨g, 0, none⟩) l.length cap) l) {i : Nat} (hi : i < l.length) (e : Ent) :
    OwnE (W.setCells g (i * 4) e.cells) B (.slice (some ⟨g, 0, none⟩) l.length cap) (l.set i e) ∧ Below B W (W.setCells g (i * 4) e.cells) := by
  rcases h.2 with ⟨h1, h2⟩ | ⟨g', cap', cur, hv, hb, hg, hn, hm, hs, ht⟩
  · cases h1
  · cases hv
    obtain ⟨cur', k1, k2, k3⟩ := setCells_row e.cells (i * 4) W cur hg
    refine ⟨⟨by rw [flat_length], .inr ⟨g, cap, cur', by rw [List.length_set], hb, k1, by rw [List.length_set]; exact hn, hm, by rw [k2, hs], ?_⟩⟩, Kept.below (kept_setCells (R := fun k => k < B) (by omega) _ _ _ (Kept.refl _ _)) fun _ h => h⟩
    rw [List.length_set]
    refine List.ext_getElem? fun j => ?_
    by_cases hj : j < l.length * 4
    · have hjc : j < cur.size := by rw [hs]; have := Nat.mul_le_mul_right 4 hn; omega
      rw [List.getElem?_take_of_lt hj, Array.getElem?_toList, k3 j hjc, flat_set hi hj]
      have h4 : e.cells.length = 4 := rfl
      rw [h4]
      by_cases hc : i * 4 ≤ j ∧ j < i * 4 + 4
      · rw [if_pos hc, if_pos hc]
      · rw [if_neg hc, if_neg hc, ← ht, List.getElem?_take_of_lt hj, Array.getElem?_toList]
    · rw [List.getElem?_take_eq_none (by omega), List.getElem?_eq_none (by rw [flat_length, List.length_set]; omega)]
theorem SL.set_ (h : SL B w0 (some ⟨g, 0, none⟩) cap n l W) {i : Nat} (hi : i < n) {e : Ent} (he : e.fits) : SL B w0 (some ⟨g, 0, none⟩) cap n (l.set i e) (W.setCells g (i * 4) e.cells) := by
  have ho := h.own
  rw [← h.len] at ho
  obtain ⟨h1, h2⟩ := own_set ho (by rw [h.len]; exact hi) e
  rw [h.len] at h1
  refine ⟨by rw [List.length_set]; exact h.len, h.below.trans h2, Nat.le_trans h.le h2.size, h1, fun x hx => ?_⟩
  rcases List.mem_or_eq_of_mem_set hx with h3 | rfl
  · exact h.fits x h3
  · exact he
theorem SL.set4 (h : SL B w0 (some ⟨g, 0, none⟩) cap n l W) {i : Nat} (hi : i < n) {e : Ent} (he : e.fits) : SL B w0 (some ⟨g, 0, none⟩) cap n (l.set i e) ((((W.setCell ⟨g, i * 4, none⟩ (.string e.u)).setCell ⟨g, i * 4 + 1, none⟩ (.int .i64 e.s)).setCell ⟨g, i * 4 + 2, none⟩ (.int .i64 e.k)).setCell ⟨g, i * 4 + 3, none⟩ (.string e.v)) := h.set_ hi he
theorem SL.swap (h : SL B w0 (some ⟨g, 0, none⟩) cap n l W) {i j : Nat} (hi : i < n) (hj : j < n) {x y : Ent} (hx : l.getD i Ent.none_ = x) (hy : l.getD j Ent.none_ = y) : SL B w0 (some ⟨g, 0, none⟩) cap n (swpE l i j)
    (((((((((W.setCell ⟨g, i * 4, none⟩ (.string y.u)).setCell ⟨g, i * 4 + 1, none⟩ (.int .i64 y.s)).setCell ⟨g, i * 4 + 2, none⟩ (.int .i64 y.k)).setCell ⟨g, i * 4 + 3, none⟩ (.string y.v)).setCell
      ⟨g, j * 4, none⟩ (.string x.u)).setCell ⟨g, j * 4 + 1, none⟩ (.int .i64 x.s)).setCell ⟨g, j * 4 + 2, none⟩ (.int .i64 x.k)).setCell ⟨g, j * 4 + 3, none⟩ (.string x.v)).drew) := by
  have h1 := h.fit hi
  have h2 := h.fit hj
  unfold swpE
  rw [hx] at h1 ⊢
  rw [hy] at h2 ⊢
  exact ((h.set4 hi h2).set4 hj h1).drew
end
end Go.Proofs.Ytnmmeaoapfampaa

/-
  The library's exchange of two parts of a row of entries.
-/
namespace Go.Proofs.Ytnmmeaoapfampaa
open Go.RowKit

theorem swp_step {A X M Y C : List Ent} {i a b m : Nat} (hX : X.length = m) (hY : Y.length = m) (hi : i < m) (ha : a = A.length) (hb : b = A.length + m + M.length) :
    swpE (A ++ (Y.take i ++ X.drop i ++ (M ++ (X.take i ++ Y.drop i ++ C)))) (a + i) (b + i) = A ++ (Y.take (i + 1) ++ X.drop (i + 1) ++ (M ++ (X.take (i + 1) ++ Y.drop (i + 1) ++ C))) := by
  have e1 : A ++ (Y.take i ++ X.drop i ++ (M ++ (X.take i ++ Y.drop i ++ C))) = (A ++ Y.take i) ++ X[i] :: ((X.drop (i + 1) ++ M ++ X.take i) ++ Y[i] :: (Y.drop (i + 1) ++ C)) := by
    rw [List.drop_eq_getElem_cons (by omega : i < X.length), List.drop_eq_getElem_cons (by omega : i < Y.length)]
    simp only [List.append_assoc, List.cons_append]
  rw [e1, swp_parts (by simp; omega) (by simp; omega), List.take_succ_eq_append_getElem (by omega : i < X.length), List.take_succ_eq_append_getElem (by omega : i < Y.length)]
  simp only [List.append_assoc, List.cons_append, List.nil_append]

set_option maxRecDepth 100000 in
set_option maxHeartbeats 1000000 in
theorem swapRange_any {B g cap n a b m : Nat} {w0 w : World} {A X M Y C : List Ent} {f : Value} (h : SL B w0 (some ⟨g, 0, none⟩) cap n (A ++ (X ++ (M ++ (Y ++ C)))) w) (ha : a = A.length) (hb : b = A.length + m + M.length) (hX : X.length = m) (hY : Y.length = m) (hn : n ≤ 1000) :
    Calls Try.prog 52 #[.slice (some ⟨g, 0, none⟩) n cap, .int .i64 a, .int .i64 b, .int .i64 m, f] w fun e w' => e = .returned (.tuple #[]) ∧ SL B w0 (some ⟨g, 0, none⟩) cap n (A ++ (Y ++ (M ++ (X ++ C)))) w' := by
  have hlen := h.len
  simp only [List.length_append] at hlen
  have H := Lib.hid h
  clear h
  have HA := Lib.hid ha
  have HX := Lib.hid hX
  have HY := Lib.hid hY
  have h1 : a + m ≤ b := by omega
  have h2 : b + m ≤ n := by omega
  have HB := Lib.hid hb
  clear hlen ha hX hY hb
  go_enter Try.func52, Try.ntmps52
  go_wp2
  go_loopg [10] m (fun kx s10 wr => ∃ i : Nat, s10 = .int .i64 i ∧ i ≤ m ∧ m - i ≤ kx ∧ Hid (SL B w0 (some ⟨g, 0, none⟩) cap n (A ++ (Y.take i ++ X.drop i ++ (M ++ (X.take i ++ Y.drop i ++ C)))) wr))
  case atStart => exact ⟨0, rfl, Nat.zero_le _, Nat.le_refl _, by simpa [Hid] using H.out⟩
  case round =>
    clear H
    obtain ⟨i, rfl, hi, hk, H⟩ := hrel
    by_cases hlt : i < m
    · have hz : (i : Int) < (m : Int) := by omega
      obtain ⟨L, hL⟩ : ∃ L, L = A ++ (Y.take i ++ X.drop i ++ (M ++ (X.take i ++ Y.drop i ++ C))) := ⟨_, rfl⟩
      rw [← hL] at H
      have e2 : swpE L (a + i) (b + i) = A ++ (Y.take (i + 1) ++ X.drop (i + 1) ++ (M ++ (X.take (i + 1) ++ Y.drop (i + 1) ++ C))) := by
        rw [hL]
        exact swp_step HX.out HY.out hlt HA.out HB.out
      clear hL
      obtain ⟨c0, c1, c2, c3⟩ := H.out.cells (i := a + i) (by omega)
      obtain ⟨d0, d1, d2, d3⟩ := H.out.cells (i := b + i) (by omega)
      have fz : ∀ o, wr.frozen? ⟨g, o, none⟩ = false := fun o => H.out.free o (i := a + i) (by omega)
      obtain ⟨x, hx⟩ : ∃ x, L.getD (a + i) Ent.none_ = x := ⟨_, rfl⟩
      obtain ⟨y, hy⟩ : ∃ y, L.getD (b + i) Ent.none_ = y := ⟨_, rfl⟩
      rw [hx] at c0 c1 c2 c3
      rw [hy] at d0 d1 d2 d3
      have S2 := H.out.swap (i := a + i) (j := b + i) (by omega) (by omega) hx hy
      rw [e2] at S2
      clear hx hy e2
      have HS := Lib.hid S2
      clear S2
      have ea : ((a : Int) + (i : Int)).toNat = a + i := by omega
      have pa : (0 : Int) ≤ (a : Int) + (i : Int) := by omega
      have ba : (a : Int) + (i : Int) < (n : Int) := by omega
      have ra : IntKind.i64.wrap ((a : Int) + (i : Int)) = (a : Int) + (i : Int) := by rw [IntKind.wrap_i64]; omega
      have eb : ((b : Int) + (i : Int)).toNat = b + i := by omega
      have pb : (0 : Int) ≤ (b : Int) + (i : Int) := by omega
      have bb : (b : Int) + (i : Int) < (n : Int) := by omega
      have rb : IntKind.i64.wrap ((b : Int) + (i : Int)) = (b : Int) + (i : Int) := by rw [IntKind.wrap_i64]; omega
      go_wp2_with fail
      go_big_region
      go_wp2
      go_roundg (m - (i + 1))
      case measure => omega
      case rel => exact ⟨i + 1, by go_num, by omega, Nat.le_refl _, HS.out⟩
    · have hz : ¬ (i : Int) < (m : Int) := by omega
      obtain rfl : i = m := by omega
      go_wp2
      go_end0
      refine ⟨rfl, ?_⟩
      have e := H.out
      rw [List.take_of_length_le (by rw [HY.out]; exact Nat.le_refl _), List.take_of_length_le (by rw [HX.out]; exact Nat.le_refl _), List.drop_eq_nil_of_le (by rw [HX.out]; exact Nat.le_refl _), List.drop_eq_nil_of_le (by rw [HY.out]; exact Nat.le_refl _)] at e
      simpa using e
end Go.Proofs.Ytnmmeaoapfampaa

/-
  The library's exchange of two parts that lie side by side.
-/
namespace Go.Proofs.Ytnmmeaoapfampaa
open Go.RowKit

set_option maxRecDepth 100000 in
set_option maxHeartbeats 1000000 in
theorem rotate_any {B g cap n a m b : Nat} {w0 w : World} {A X Y C : List Ent} {f : Value} (h : SL B w0 (some ⟨g, 0, none⟩) cap n (A ++ (X ++ (Y ++ C))) w) (ha : a = A.length) (hm : m = A.length + X.length) (hb : b = A.length + X.length + Y.length) (hX : 1 ≤ X.length) (hY : 1 ≤ Y.length) (hn : n ≤ 1000) :
    Calls Try.prog 51 #[.slice (some ⟨g, 0, none⟩) n cap, .int .i64 a, .int .i64 m, .int .i64 b, f] w fun e w' => e = .returned (.tuple #[]) ∧ SL B w0 (some ⟨g, 0, none⟩) cap n (A ++ (Y ++ (X ++ C))) w' := by
  have hlen := h.len
  simp only [List.length_append] at hlen
  obtain ⟨T, hT⟩ : ∃ T, T = A ++ (Y ++ (X ++ C)) := ⟨_, rfl⟩
  rw [← hT]
  have HS : Hid (∃ i j : Nat, (m : Int) - (a : Int) = (i : Int) ∧ (b : Int) - (m : Int) = (j : Int) ∧ 1 ≤ i ∧ 1 ≤ j ∧ i + j ≤ b ∧ ∃ A' X' Y' C', X'.length = i ∧ Y'.length = j ∧ A'.length + i = m ∧ m + j ≤ b ∧ A' ++ (Y' ++ (X' ++ C')) = T ∧ SL B w0 (some ⟨g, 0, none⟩) cap n (A' ++ (X' ++ (Y' ++ C'))) w) :=
    Lib.hid ⟨X.length, Y.length, by omega, by omega, hX, hY, by omega, A, X, Y, C, rfl, rfl, by omega, by omega, hT.symm, h⟩
  have hb1 : b ≤ n := by omega
  have hm1 : m ≤ n := by omega
  have ha1 : a ≤ m := by omega
  have hmb : m ≤ b := by omega
  clear hlen ha hm hb hX hY hT h
  obtain ⟨i0, j0, hi0, hj0, HS⟩ := HS.out
  have HS := Lib.hid HS
  go_enter Try.func51, Try.ntmps51
  go_wp2
  go_loopg [10, 11] (i0 + j0) (fun kx s10 s11 wr => ∃ i j : Nat, s10 = .int .i64 i ∧ s11 = .int .i64 j ∧ i + j ≤ kx ∧ 1 ≤ i ∧ 1 ≤ j ∧ i ≤ m ∧ m + j ≤ b ∧ Hid (∃ A' X' Y' C', X'.length = i ∧ Y'.length = j ∧ A'.length + i = m ∧ A' ++ (Y' ++ (X' ++ C')) = T ∧ SL B w0 (some ⟨g, 0, none⟩) cap n (A' ++ (X' ++ (Y' ++ C'))) wr))
  case atStart =>
    obtain ⟨h1, h2, h3, A', X', Y', C', h4, h5, h6, h7, h8⟩ := HS.out
    exact ⟨i0, j0, rfl, rfl, Nat.le_refl _, h1, h2, by omega, by omega, A', X', Y', C', h4, h5, h6, h8⟩
  case round =>
    clear HS
    obtain ⟨i, j, rfl, rfl, hk, hi, hj, him, hjb, H⟩ := hrel
    obtain ⟨p, hp⟩ : ∃ p : Nat, p + i = m := ⟨m - i, by omega⟩
    have hpz : (m : Int) - (i : Int) = (p : Int) := by omega
    have hpn : p ≤ n := by omega
    rcases Nat.lt_trichotomy i j with hlt | heq | hgt
    · obtain ⟨q, hq⟩ : ∃ q : Nat, q = m + j - i := ⟨_, rfl⟩
      have hqz : (m : Int) + (j : Int) - (i : Int) = (q : Int) := by omega
      have HQ := Lib.hid hq
      have HP := Lib.hid hp
      have hne : ((i : Int) != (j : Int)) = true := by simp; omega
      have hng : ¬ (j : Int) < (i : Int) := by omega
      have HC : Hid (Calls Try.prog 52 #[.slice (some ⟨g, 0, none⟩) n cap, .int .i64 p, .int .i64 q, .int .i64 i, f] wr fun e w' => e = .returned (.tuple #[]) ∧ Hid (∃ A' X' Y' C', X'.length = i ∧ Y'.length = j - i ∧ A'.length + i = m ∧ A' ++ (Y' ++ (X' ++ C')) = T ∧ SL B w0 (some ⟨g, 0, none⟩) cap n (A' ++ (X' ++ (Y' ++ C'))) w')) := by
        obtain ⟨A', X', Y', C', h4, h5, h6, h7, h8⟩ := H.out
        have e : A' ++ (X' ++ (Y' ++ C')) = A' ++ (X' ++ (Y'.take (j - i) ++ (Y'.drop (j - i) ++ C'))) := by
          conv => lhs; rw [← List.take_append_drop (j - i) Y']
          simp only [List.append_assoc]
        rw [e] at h8
        refine (swapRange_any h8 (by omega) (by rw [List.length_take]; omega) h4 (by rw [List.length_drop]; omega) hn).mono ?_
        rintro e w' ⟨rfl, h9⟩
        refine ⟨rfl, Lib.hid ⟨A', Y'.drop (j - i), Y'.take (j - i), X' ++ C', by rw [List.length_drop]; omega, by rw [List.length_take]; omega, h6, ?_, h9⟩⟩
        rw [← h7]
        conv => rhs; rw [← List.take_append_drop (j - i) Y']
        simp only [List.append_assoc]
      clear H hp hq
      go_wp2_with (go_at_call 52; refine HC.out.mono ?_; rintro e w' ⟨rfl, H2⟩)
      go_roundg (i + (j - i))
      case measure => omega
      case rel => exact ⟨i, j - i, rfl, congrArg (Value.int .i64) (by omega), by omega, by omega, by omega, by omega, by omega, H2⟩
    · obtain rfl := heq
      have HC : Hid (Calls Try.prog 52 #[.slice (some ⟨g, 0, none⟩) n cap, .int .i64 p, .int .i64 m, .int .i64 i, f] wr fun e w' => e = .returned (.tuple #[]) ∧ SL B w0 (some ⟨g, 0, none⟩) cap n T w') := by
        obtain ⟨A', X', Y', C', h4, h5, h6, h7, h8⟩ := H.out
        refine (swapRange_any (M := []) (by simpa using h8) (by omega) (by simp; omega) h4 h5 hn).mono ?_
        rintro e w' ⟨rfl, h9⟩
        exact ⟨rfl, by rw [← h7]; simpa using h9⟩
      have hne : ((i : Int) != (i : Int)) = false := by simp
      clear H hp
      go_wp2_with (go_at_call 52; refine HC.out.mono ?_; rintro e w' ⟨rfl, H2⟩)
      go_end0
      exact ⟨rfl, H2⟩
    · have hne : ((i : Int) != (j : Int)) = true := by simp; omega
      have hg : (j : Int) < (i : Int) := by omega
      have HC : Hid (Calls Try.prog 52 #[.slice (some ⟨g, 0, none⟩) n cap, .int .i64 p, .int .i64 m, .int .i64 j, f] wr fun e w' => e = .returned (.tuple #[]) ∧ Hid (∃ A' X' Y' C', X'.length = i - j ∧ Y'.length = j ∧ A'.length + (i - j) = m ∧ A' ++ (Y' ++ (X' ++ C')) = T ∧ SL B w0 (some ⟨g, 0, none⟩) cap n (A' ++ (X' ++ (Y' ++ C'))) w')) := by
        obtain ⟨A', X', Y', C', h4, h5, h6, h7, h8⟩ := H.out
        have e : A' ++ (X' ++ (Y' ++ C')) = A' ++ (X'.take j ++ (X'.drop j ++ (Y' ++ C'))) := by
          conv => lhs; rw [← List.take_append_drop j X']
          simp only [List.append_assoc]
        rw [e] at h8
        refine (swapRange_any h8 (by omega) (by rw [List.length_drop]; omega) (by rw [List.length_take]; omega) h5 hn).mono ?_
        rintro e w' ⟨rfl, h9⟩
        refine ⟨rfl, Lib.hid ⟨A' ++ Y', X'.drop j, X'.take j, C', by rw [List.length_drop]; omega, by rw [List.length_take]; omega, by rw [List.length_append]; omega, ?_, by rw [List.append_assoc]; exact h9⟩⟩
        rw [← h7]
        conv => rhs; rw [← List.take_append_drop j X']
        simp only [List.append_assoc]
      clear H hp
      go_wp2_with (go_at_call 52; refine HC.out.mono ?_; rintro e w' ⟨rfl, H2⟩)
      go_roundg (i - j + j)
      case measure => omega
      case rel => exact ⟨i - j, j, congrArg (Value.int .i64) (by omega), rfl, by omega, by omega, by omega, by omega, by omega, H2⟩
end Go.Proofs.Ytnmmeaoapfampaa

/-
  The library's sort of a small part of a row of entries.
-/
namespace Go.Proofs.Ytnmmeaoapfampaa
open Go.RowKit

set_option maxRecDepth 100000 in
theorem cmpE_any (x y : Ent) (hx : x.fits) (hy : y.fits) (W : World) : Calls Try.prog 32 #[entV x, entV y] W fun e w' => e = .returned (.int .i64 (x.cmp y)) ∧ Below W.heap.size W w' := by
  have HC := Lib.hid (fun W' => cmp_any x.u x.s x.k y.u y.s y.k hx.1 hy.1 W')
  go_enter Try.func32, Try.ntmps32
  go_wp2_with (go_at_call 33; (refine (HC.out _).mono ?_); rintro e w1 ⟨rfl, hb⟩)
  go_ret
  exact ⟨rfl, belowT (((Below.refl _ W).alloc (Nat.le_refl _) _).alloc (by simp) _) (hb.mono (by simp))⟩

/-- A compare in a world that compares left. -/
theorem SL.compare {B cap n g : Nat} {w0 W : World} {l : List Ent} (h : SL B w0 (some ⟨g, 0, none⟩) cap n l W) {i j : Nat} (hi : i < n) (hj : j < n) (m : Nat) (os : Array Obj) :
    Calls Try.prog 32 #[entV (l.getD i Ent.none_), entV (l.getD j Ent.none_)] (shiftW W m os) fun e w'' => e = .returned (.int .i64 ((l.getD i Ent.none_).cmp (l.getD j Ent.none_))) ∧ ∃ p : ShiftBy, w'' = shiftW W p.n p.os :=
  Calls.shift_of (cmpE_any _ _ (h.fit hi) (h.fit hj) _)

set_option maxRecDepth 100000 in
theorem insertion_none (v : Value) (c : Value) (w : World) : Calls Try.prog 46 #[v, .int .i64 0, .int .i64 0, c] w fun e w' => e = .returned (.tuple #[]) ∧ w' = w := by
  go_enter Try.func46, Try.ntmps46
  go_wp2
  go_loopg [8] 0 (fun _ s8 wr => s8 = .int .i64 1 ∧ wr = w)
  case atStart => exact ⟨rfl, rfl⟩
  case round =>
    obtain ⟨rfl, rfl⟩ := hrel
    go_wp2
    go_end0
    exact ⟨rfl, rfl⟩

set_option maxRecDepth 100000 in
set_option maxHeartbeats 1000000 in
theorem insertion_any {B g cap n a b : Nat} {w0 w : World} {A X C : List Ent} (h : SL B w0 (some ⟨g, 0, none⟩) cap n (A ++ (X ++ C)) w) (ha : a = A.length) (hb : b = A.length + X.length) (hn : n ≤ 1000) :
    Calls Try.prog 46 #[.slice (some ⟨g, 0, none⟩) n cap, .int .i64 a, .int .i64 b, .func (.func 32) #[] #[]] w fun e w' => e = .returned (.tuple #[]) ∧ ∃ S, Le S ∧ Stab X S ∧ SL B w0 (some ⟨g, 0, none⟩) cap n (A ++ (S ++ C)) w' := by
  have hlen := h.len
  simp only [List.length_append] at hlen
  have hbn : b ≤ n := by omega
  have hab : a ≤ b := by omega
  have HA := Lib.hid ha
  have HB := Lib.hid hb
  have HS : Hid (∃ X1 X2 S, X = X1 ++ X2 ∧ X1.length = min (a + 1 - a) X.length ∧ Stab X1 S ∧ Le S ∧ SL B w0 (some ⟨g, 0, none⟩) cap n (A ++ (S ++ (X2 ++ C))) w) := by
    refine ⟨X.take 1, X.drop 1, X.take 1, (List.take_append_drop 1 X).symm, by rw [List.length_take]; omega, Stab.refl _, ?_, ?_⟩
    · cases X with
      | nil => exact Le.nil
      | cons x r => exact Le.one x
    · rw [← List.append_assoc (X.take 1), List.take_append_drop]
      exact h
  clear h hlen ha hb
  go_enter Try.func46, Try.ntmps46
  go_wp2
  go_loopg [8] (b - a) (fun kx s8 wr => ∃ i : Nat, s8 = .int .i64 i ∧ a + 1 ≤ i ∧ i ≤ b + 1 ∧ b + 1 - i ≤ kx + 1 ∧ Hid (∃ X1 X2 S, X = X1 ++ X2 ∧ X1.length = min (i - a) X.length ∧ Stab X1 S ∧ Le S ∧ SL B w0 (some ⟨g, 0, none⟩) cap n (A ++ (S ++ (X2 ++ C))) wr))
  case atStart => exact ⟨a + 1, by go_num, Nat.le_refl _, by omega, by omega, HS⟩
  case round =>
    clear HS
    obtain ⟨i, rfl, hai, hib, hk, H⟩ := hrel
    by_cases hlt : i < b
    · have hltz : (i : Int) < (b : Int) := by omega
      obtain ⟨X1, X2, S, hX, hX1, hst, hle, hs⟩ := H.out
      have hX1' : X1.length = i - a := by have := HA.out; have := HB.out; omega
      have hX2 : X2.length = b - i := by have := HA.out; have := HB.out; rw [hX, List.length_append] at this; omega
      obtain ⟨x, X3, rfl⟩ : ∃ x X3, X2 = x :: X3 := by
        cases X2 with
        | nil => simp at hX2; omega
        | cons x r => exact ⟨x, r, rfl⟩
      have hSl : S.length = i - a := by rw [← hst.len]; exact hX1'
      have HI : Hid (∃ S1 S2, S = S1 ++ S2 ∧ i = a + S1.length ∧ (∀ y ∈ S2, x.cmp y < 0) ∧ SL B w0 (some ⟨g, 0, none⟩) cap n (A ++ (S1 ++ (x :: (S2 ++ (X3 ++ C))))) wr) :=
        Lib.hid ⟨S, [], by simp, by omega, by simp, by simpa using hs⟩
      have HX := Lib.hid (show X = X1 ++ x :: X3 from hX)
      have HX1 := Lib.hid hX1'
      have HST := Lib.hid hst
      have HLE := Lib.hid hle
      clear H hX hX1 hX1' hX2 hst hle hs hSl
      go_wp2
      go_loopg [9] i (fun kx s9 wq => ∃ j : Nat, s9 = .int .i64 j ∧ a ≤ j ∧ j ≤ i ∧ j ≤ kx ∧ Hid (∃ S1 S2, S = S1 ++ S2 ∧ j = a + S1.length ∧ (∀ y ∈ S2, x.cmp y < 0) ∧ SL B w0 (some ⟨g, 0, none⟩) cap n (A ++ (S1 ++ (x :: (S2 ++ (X3 ++ C))))) wq))
      case atStart => exact ⟨i, rfl, by omega, Nat.le_refl _, Nat.le_refl _, HI⟩
      case round =>
        clear HI
        obtain ⟨j, rfl, haj, hji, hg2, HI⟩ := hrel
        by_cases hja : a < j
        · obtain ⟨p, rfl⟩ : ∃ p, j = p + 1 := ⟨j - 1, by omega⟩
          obtain ⟨S1, S2, hS, hj, hS2, hs⟩ := HI.out
          obtain ⟨S0, y, rfl⟩ : ∃ S0 y, S1 = S0 ++ [y] := by
            refine ⟨S1.dropLast, S1.getLast (fun e => by rw [e] at hj; simp at hj; omega), (List.dropLast_concat_getLast _).symm⟩
          obtain ⟨L, hL⟩ : ∃ L, L = A ++ (S0 ++ [y] ++ (x :: (S2 ++ (X3 ++ C)))) := ⟨_, rfl⟩
          rw [← hL] at hs
          rw [List.length_append, List.length_singleton] at hj
          have gx : L.getD (p + 1) Ent.none_ = x := by rw [hL, ← List.append_assoc]; exact getD_at (by have := HA.out; simp; omega)
          have gy : L.getD p Ent.none_ = y := by
            rw [hL, show A ++ (S0 ++ [y] ++ (x :: (S2 ++ (X3 ++ C)))) = (A ++ S0) ++ y :: (x :: (S2 ++ (X3 ++ C))) by simp]
            exact getD_at (by have := HA.out; simp; omega)
          have c0 := fun m os => ((hs.shift m os).cells (i := p + 1) (by omega)).1
          have c1 := fun m os => ((hs.shift m os).cells (i := p + 1) (by omega)).2.1
          have c2 := fun m os => ((hs.shift m os).cells (i := p + 1) (by omega)).2.2.1
          have c3 := fun m os => ((hs.shift m os).cells (i := p + 1) (by omega)).2.2.2
          have d0 := fun m os => ((hs.shift m os).cells (i := p) (by omega)).1
          have d1 := fun m os => ((hs.shift m os).cells (i := p) (by omega)).2.1
          have d2 := fun m os => ((hs.shift m os).cells (i := p) (by omega)).2.2.1
          have d3 := fun m os => ((hs.shift m os).cells (i := p) (by omega)).2.2.2
          have hc := fun m os => hs.compare (i := p + 1) (j := p) (by omega) (by omega) m os
          rw [gx] at c0 c1 c2 c3
          rw [gy] at d0 d1 d2 d3
          rw [gx, gy] at hc
          have HC := Lib.hid hc
          have HSL := Lib.hid hs
          have HSE := Lib.hid (show S = S0 ++ [y] ++ S2 from hS)
          have HJ := Lib.hid hj
          have HS2 := Lib.hid hS2
          have HL := Lib.hid hL
          have HGX := Lib.hid gx
          have HGY := Lib.hid gy
          clear hc hs hS hj hS2 hL gx gy HI
          have ja : (a : Int) < (p : Int) + 1 := by omega
          have e0 : ((p : Int) + 1).toNat = p + 1 := by omega
          have p0 : (0 : Int) ≤ (p : Int) + 1 := by omega
          have b0 : (p : Int) + 1 < (n : Int) := by omega
          have b1 : (p : Int) < (n : Int) := by omega
          have rp : IntKind.i64.wrap (p : Int) = (p : Int) := by rw [IntKind.wrap_i64]; omega
          by_cases hv : x.cmp y < 0
          · go_wp2_with fail
            refine wp_region_shift (by kernel_rfl) (by kernel_rfl) ?_
            repeat (quiet_step (exact HC.out _ _))
            refine wpQuiet_nil ?_
            intro _ hw'
            obtain ⟨⟨nq, osq⟩, hw''⟩ := hw'
            subst hw''
            have hz := HSL.out.shift nq osq
            clear c0 c1 c2 c3 d0 d1 d2 d3 HSL HC
            generalize shiftW wr nq osq = wz at hz ⊢
            obtain ⟨c0, c1, c2, c3⟩ := hz.cells (i := p + 1) (by omega)
            obtain ⟨d0, d1, d2, d3⟩ := hz.cells (i := p) (by omega)
            rw [HGX.out] at c0 c1 c2 c3
            rw [HGY.out] at d0 d1 d2 d3
            have fz : ∀ o, wz.frozen? ⟨g, o, none⟩ = false := fun o => hz.free o (i := p) (by omega)
            have S2' := hz.swap (i := p + 1) (j := p) (by omega) (by omega) HGX.out HGY.out
            have e2 : swpE L (p + 1) p = A ++ (S0 ++ (x :: (y :: S2 ++ (X3 ++ C)))) := by
              rw [HL.out, show A ++ (S0 ++ [y] ++ (x :: (S2 ++ (X3 ++ C)))) = (A ++ S0) ++ y :: ([] ++ x :: (S2 ++ (X3 ++ C))) by simp, swp_comm, swp_parts (by have := HA.out; have := HJ.out; simp; omega) (by have := HA.out; have := HJ.out; simp; omega)]
              simp
            rw [e2] at S2'
            have HSW := Lib.hid S2'
            clear hz e2 S2'
            go_wp2_with fail
            go_big_region
            go_wp2
            go_roundg p
            case measure => omega
            case rel => exact ⟨p, by go_num, by omega, by omega, Nat.le_refl _, S0, y :: S2, by rw [HSE.out]; simp, by have := HJ.out; omega, fun u hu => by (rcases List.mem_cons.1 hu with rfl | hu); exact hv; exact HS2.out u hu, HSW.out⟩
          · go_wp2_with fail
            refine wp_region_shift (by kernel_rfl) (by kernel_rfl) ?_
            repeat (quiet_step (exact HC.out _ _))
            refine wpQuiet_nil ?_
            intro _ hw'
            obtain ⟨⟨nq, osq⟩, hw''⟩ := hw'
            subst hw''
            have hz := HSL.out.shift nq osq
            clear c0 c1 c2 c3 d0 d1 d2 d3 HSL HC
            generalize shiftW wr nq osq = wz at hz ⊢
            rw [HL.out] at hz
            have HZ := Lib.hid hz
            clear hz
            go_wp2
            go_roundg (b - (i + 1))
            case measure => omega
            case rel =>
              have hle := HLE.out
              rw [HSE.out] at hle
              have hst := HST.out
              rw [HSE.out] at hst
              refine ⟨i + 1, by go_num, by omega, by omega, by omega, X1 ++ [x], X3, S0 ++ [y] ++ x :: S2, by rw [HX.out]; simp, ?_, ins_stab hst HS2.out, ins_le hle (fun u hu => cmp_le_trans (hle.left.le_last u hu) (cmp_ge (by omega))) HS2.out, ?_⟩
              · have h1 := HX1.out
                have h2 := congrArg List.length HX.out
                simp only [List.length_append, List.length_cons, List.length_nil] at h2 ⊢
                omega
              · have := HZ.out
                simpa using this
        · have hja' : ¬ (a : Int) < (j : Int) := by omega
          have HZ : Hid (∃ S2, S = S2 ∧ (∀ y ∈ S2, x.cmp y < 0) ∧ SL B w0 (some ⟨g, 0, none⟩) cap n (A ++ (x :: (S2 ++ (X3 ++ C)))) wr.drew) := by
            obtain ⟨S1, S2, h1, h2, h3, h4⟩ := HI.out
            obtain rfl : S1 = [] := List.eq_nil_of_length_eq_zero (by omega)
            exact Lib.hid ⟨S2, h1, h3, h4.drew⟩
          clear HI
          go_wp2_with fail
          go_big_region
          go_wp2
          go_roundg (b - (i + 1))
          case measure => omega
          case rel =>
            obtain ⟨S2, rfl, h3, h4⟩ := HZ.out
            refine ⟨i + 1, by go_num, by omega, by omega, by omega, X1 ++ [x], X3, x :: S, by rw [HX.out]; simp, ?_, ins_stab (A := []) HST.out h3, ins_le (A := []) HLE.out (fun u hu => by cases hu) h3, ?_⟩
            · have h1 := HX1.out
              have h2 := congrArg List.length HX.out
              simp only [List.length_append, List.length_cons, List.length_nil] at h2 ⊢
              omega
            · simpa using h4
    · have hltz : ¬ (i : Int) < (b : Int) := by omega
      go_wp2
      go_end0
      obtain ⟨X1, X2, S, h1, h2, h3, h4, h5⟩ := H.out
      have h6 := congrArg List.length h1
      simp only [List.length_append] at h6
      obtain rfl : X2 = [] := List.eq_nil_of_length_eq_zero (by have := HA.out; have := HB.out; omega)
      rw [List.append_nil] at h1
      subst h1
      exact ⟨rfl, S, h4, h3, by simpa using h5⟩
end Go.Proofs.Ytnmmeaoapfampaa
