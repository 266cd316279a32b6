/-
  What the far store takes of the library: all names in order, copies of lists of numbers and of maps, is it a name.
-/
import Derived.Test.YtljjgpjaleekdaaGreatDoorFarSmall
import Derived.Test.YtljjgpjaleekdaaGreatDoorFarLay
import Derived.Test.YtljjgpjaleekdaaGreatDoorFarLay2
import Derived.StringKeys
namespace Go.Proofs.YtljjgpjaleekdaaGreatDoor
open Go.RowKit Go.Maps Go.Sort Go.Shelf

theorem sorts_in (m : Nat) : AnyZ.SortsIn Tryz.prog Tryz.sortedL_ren Fence.wide m :=
  ⟨fun blk off cap ss W hH hblk hsz => callsIn_wide.2 (AnyM.slices_Sort_string Tryz.sortL blk off cap ss W hH hblk hsz),
   fun p cap W => callsIn_wide.2 (AnyM.slices_Sort_string_none Tryz.sortL p cap W)⟩

theorem keys_any (mb : Option Nat) (W : World) : Calls Tryz.prog 53 #[.map mb] W fun e w' => e = .returned (.func (.func 63) #[] #[.pointer (some ⟨W.heap.size, 0, none⟩)]) ∧ w' = W.alloc (.cells #[.map mb] 43) :=
  callsIn_wide.1 (AnyZ.keys_in Tryz.keysL Fence.wide 5 trivial rfl mb W)

set_option maxHeartbeats 1000000 in
theorem sorted_own (b nn : Nat) (D0 : DataW Unit) (R : Value → Option (DataW Unit × List MemPlace)) (w : World) (hown : w.ownsMap Tryz.prog 9 R b nn D0) (hmax : Maps.size D0 ≤ maxLen) (hbytes : Maps.size D0 * 16 ≤ 140737488355328) :
    Calls Tryz.prog 52 #[.func (.func 63) #[] #[.pointer (some ⟨w.heap.size, 0, none⟩)]] (w.alloc (.cells #[.map (some b)] 43)) fun e w' => ∃ (v : Value) (ss : List (List UInt8)), e = .returned v ∧ ss.Perm (strKeys D0) ∧
      w'.ownsRow (w.alloc (.cells #[.map (some b)] 43)).heap.size 9 1 v ss.length ((ss.mergeSort (fun x y => decide (x ≤ y))).map encStr) ∧ (v = .slice none 0 0 ↔ ss = []) ∧ Below (w.alloc (.cells #[.map (some b)] 43)).heap.size (w.alloc (.cells #[.map (some b)] 43)) w' := by
  have hbl := hown.lt
  have hseq : SeqGives Fence.wide 2 Tryz.prog 63 #[.pointer (some ⟨w.heap.size, 0, none⟩)] encStr (fun ss => ss.Perm (strKeys D0)) (Maps.size D0) (w.alloc (.cells #[.map (some b)] 43)) :=
    AnyZ.keys_gives (ρ := Tryz.keysL_ren) { Tryz.keysL with } Fence.wide _ trivial rfl (by omega) w.heap.size b nn D0 _ (by simp) (by simp) (by
      obtain ⟨es, clock, hb, Ft, hs, hD⟩ := hown
      exact ⟨es, clock, (Below.heap_alloc _ _ b hbl).trans hb, Ft, hs, hD⟩)
  exact callsIn_wide.1 (AnyZ.sorted_in Tryz.sortedL Fence.wide 5 trivial trivial trivial trivial rfl (by omega) (sorts_in _) (enters_of Tryz.func62 (by kernel_rfl) rfl) 63 #[.pointer (some ⟨w.heap.size, 0, none⟩)] trivial (enters_of Tryz.func63 (by kernel_rfl) rfl) _ _ hmax hbytes _ hseq)

set_option maxHeartbeats 1000000 in
theorem sorted_nil (w : World) :
    Calls Tryz.prog 52 #[.func (.func 63) #[] #[.pointer (some ⟨w.heap.size, 0, none⟩)]] (w.alloc (.cells #[.map none] 43)) fun e w' => ∃ (v : Value) (ss : List (List UInt8)), e = .returned v ∧ ss = [] ∧
      w'.ownsRow (w.alloc (.cells #[.map none] 43)).heap.size 9 1 v ss.length ((ss.mergeSort (fun x y => decide (x ≤ y))).map encStr) ∧ (v = .slice none 0 0 ↔ ss = []) ∧ Below (w.alloc (.cells #[.map none] 43)).heap.size (w.alloc (.cells #[.map none] 43)) w' := by
  have hseq : SeqGives Fence.wide 2 Tryz.prog 63 #[.pointer (some ⟨w.heap.size, 0, none⟩)] encStr (fun ss : List (List UInt8) => ss = []) 0 (w.alloc (.cells #[.map none] 43)) :=
    AnyZ.keys_gives_nil (ρ := Tryz.keysL_ren) { Tryz.keysL with } Fence.wide _ trivial rfl w.heap.size _ (by simp) (by simp)
  exact callsIn_wide.1 (AnyZ.sorted_in Tryz.sortedL Fence.wide 5 trivial trivial trivial trivial rfl (by omega) (sorts_in _) (enters_of Tryz.func62 (by kernel_rfl) rfl) 63 #[.pointer (some ⟨w.heap.size, 0, none⟩)] trivial (enters_of Tryz.func63 (by kernel_rfl) rfl) _ 0 (Nat.zero_le _) (by omega) _ hseq)

theorem before_lt : ∀ {a b : List UInt8}, bytesBefore a b = true → a ≤ b
  | [], _, _ => List.nil_le _
  | _ :: _, [], h => by simp [bytesBefore] at h
  | a :: r, b :: t, h => by
    unfold bytesBefore at h
    simp only [Bool.or_eq_true, Bool.and_eq_true, decide_eq_true_eq, beq_iff_eq] at h
    rw [List.cons_le_cons_iff]
    rcases h with h | ⟨rfl, h⟩
    · exact .inl h
    · exact .inr ⟨rfl, before_lt h⟩

theorem srt_sorted {β : Type} {l : List (List UInt8 × β)} (h : Srt l) : (l.map (·.1)).mergeSort (fun x y => decide (x ≤ y)) = l.map (·.1) := by
  refine List.mergeSort_of_pairwise ?_
  rw [List.pairwise_map]
  exact h.imp fun h => by simpa using before_lt h

def nmCells {β : Type} (l : List (List UInt8 × β)) : List Value := l.map fun x => .string (strB x.1)

theorem sorted_names {β : Type} {l : List (List UInt8 × β)} (h : Srt l) {ss : List (List UInt8)} (hp : ss.Perm (l.map (·.1))) : (ss.mergeSort (fun x y => decide (x ≤ y))).map encStr = nmCells l ∧ ss.length = l.length := by
  refine ⟨?_, by rw [hp.length_eq, List.length_map]⟩
  have := Go.mergeSort_of_perm hp
  rw [this, srt_sorted h, List.map_map]
  rfl

set_option maxRecDepth 100000 in
set_option maxHeartbeats 1000000 in
theorem farRising_any (w : World) (p : Nat) (nv : Value) (l : List (List UInt8 × List UInt8)) (hc : w.cell? ⟨p, 0, none⟩ = some nv) (hn : Om w nv l) (hl : l.length < 1000000000000) :
    Calls Tryz.prog 30 #[.pointer (some ⟨p, 0, none⟩)] w fun e w' => ∃ v, e = .returned v ∧ w'.ownsRow w.heap.size 9 1 v l.length (nmCells l) ∧ Below w.heap.size w w' := by
  have hsrt := Lib.hid hn.srt
  rcases hn with ⟨rfl, rfl⟩ | ⟨b, rfl, hm⟩
  · have h1 := Lib.hid (keys_any none w)
    have h2 := Lib.hid (sorted_nil w)
    go_enter Tryz.func30, Tryz.ntmps30
    go_wp2_with (first | (go_at_call 53; refine h1.out.mono ?_; rintro e w' ⟨rfl, rfl⟩) | (go_at_call 52; refine h2.out.mono ?_; rintro e w' ⟨v, ss, rfl, rfl, hrow, _, hb⟩))
    go_ret
    refine ⟨v, rfl, ?_, ((Below.refl _ w).alloc (Nat.le_refl _) _).trans (hb.mono (by simp))⟩
    exact own_base (by simpa [nmCells] using hrow) fun k hk => by have := (World.ownsRow.lt hrow k hk).1; simp at this; omega
  · have h1 := Lib.hid (keys_any (some b) w)
    have h2 := Lib.hid (sorted_own b l.length (mapN objD l) _ w hm (by rw [mapN_size]; unfold maxLen; omega) (by rw [mapN_size]; omega))
    have HM := Lib.hid hm
    clear hm
    go_enter Tryz.func30, Tryz.ntmps30
    go_wp2_with (first | (go_at_call 53; refine h1.out.mono ?_; rintro e w' ⟨rfl, rfl⟩) | (go_at_call 52; refine h2.out.mono ?_; rintro e w' ⟨v, ss, rfl, hS, hrow, _, hb⟩))
    go_ret
    refine ⟨v, rfl, ?_, ((Below.refl _ w).alloc (Nat.le_refl _) _).trans (hb.mono (by simp))⟩
    rw [mapN_keys] at hS
    obtain ⟨e1, e2⟩ := sorted_names hsrt.out hS
    rw [e1, e2] at hrow
    exact own_base hrow fun k hk => by have := (World.ownsRow.lt hrow k hk).1; simp at this; omega


set_option maxRecDepth 100000 in
/-- slices.Clone of numbers that can be read. -/
theorem iclone_any (w : World) (v : Value) (l : List Int) (h : Rd w 1 v l.length (l.map (Value.int .i64))) (hl : l.length < 1000000000000) :
    Calls Tryz.prog 31 #[v] w fun e w' => ∃ v', e = .returned v' ∧ Lf w' v' l ∧ (∀ k, v'.ownBlock = some k → w.heap.size ≤ k ∧ k < w'.heap.size) ∧ Below w.heap.size w w' := by
  have fin : ∀ (v' : Value) (w' : World), w'.ownsRow w.heap.size 3 1 v' l.length (l.map (Value.int .i64)) → Lf w' v' l ∧ (∀ k, v'.ownBlock = some k → w.heap.size ≤ k ∧ k < w'.heap.size) := by
    intro v' w' hrow
    exact ⟨rd_of_own hrow, fun k hk => World.ownsRow.lt hrow k hk⟩
  obtain ⟨a, cap, rfl, h1, h2, h3, h4⟩ := h
  cases a with
  | none =>
    have hl0 : l = [] := by
      rcases h4 with ⟨h4, _⟩ | ⟨b, off, h4, _⟩
      · exact List.eq_nil_of_length_eq_zero h4
      · cases h4
    subst hl0
    refine (Any.slices_Clone_int_nil Tryz.iclL _ _ w).mono ?_
    rintro e w' ⟨rfl, rfl⟩
    exact ⟨_, rfl, Rd.nil _ _, fun k hk => (nomatch hk), Below.refl _ _⟩
  | some a =>
    by_cases h0 : l = []
    · subst h0
      refine (Any.slices_Clone_int_zero Tryz.iclL a cap w).mono ?_
      rintro e w' ⟨v', rfl, hrow, _, hb⟩
      obtain ⟨r1, r2⟩ := fin v' w' hrow
      exact ⟨v', rfl, r1, r2, hb⟩
    · rcases h4 with ⟨h4, _⟩ | ⟨b, off, h4, h5, h6⟩
      · exact absurd (List.eq_nil_of_length_eq_zero h4) h0
      · cases h4
        refine (Any.slices_Clone_int Tryz.iclL b off l.length cap l w (Nat.le_refl _) (by omega) fun j hj => h6 j _ (by simp [List.getD, hj])).mono ?_
        rintro e w' ⟨v', rfl, hrow, _, hb⟩
        rw [List.take_length] at hrow
        obtain ⟨r1, r2⟩ := fin v' w' hrow
        exact ⟨v', rfl, r1, r2, hb⟩

def mayL : List UInt8 := [97, 98, 99, 100, 101, 102, 103, 104, 105, 106, 107, 108, 109, 110, 111, 112, 113, 114, 115, 116, 117, 118, 119, 120, 121, 122, 48, 49, 50, 51, 52, 53, 54, 55, 56, 57, 45, 46]

theorem mayL_fin : ∀ n : Fin 256, mayL.contains (UInt8.ofNat n.1) = nmC (UInt8.ofNat n.1) := by decide +kernel
theorem mayL_any (c : UInt8) : mayL.contains c = nmC c := by
  have := mayL_fin ⟨c.toNat, c.toNat_lt⟩
  simpa using this

theorem dropWhile_nil_iff {α : Type} (q : α → Bool) : ∀ l : List α, l.dropWhile q = [] ↔ ∀ x ∈ l, q x = true
  | [] => by simp
  | a :: r => by
    rw [List.dropWhile_cons]
    by_cases h : q a = true
    · rw [if_pos h, dropWhile_nil_iff q r]
      simp [h]
    · rw [if_neg h]
      simp [h]

theorem dropWhile_head {α : Type} (q : α → Bool) : ∀ (l : List α) (y : α) (r : List α), l.dropWhile q = y :: r → q y = false
  | [], _, _, h => by simp at h
  | a :: t, y, r, h => by
    rw [List.dropWhile_cons] at h
    by_cases ha : q a = true
    · rw [if_pos ha] at h
      exact dropWhile_head q t y r h
    · rw [if_neg ha] at h
      cases h
      simpa using ha

theorem trimS_nil (l cs : List UInt8) : (Lib.trimS l cs = []) ↔ l.all (cs.contains ·) = true := by
  unfold Lib.trimS Lib.trimLeftS Lib.trimRightS
  rw [dropWhile_nil_iff]
  constructor
  · intro h
    by_cases he : l.reverse.dropWhile (cs.contains ·) = []
    · rw [dropWhile_nil_iff] at he
      rw [List.all_eq_true]
      intro x hx
      exact he x (List.mem_reverse.2 hx)
    · exfalso
      obtain ⟨y, r, hy⟩ := List.exists_cons_of_ne_nil he
      have h1 := dropWhile_head _ _ _ _ hy
      have h2 := h y (by rw [hy]; simp)
      rw [h2] at h1
      cases h1
  · intro h x hx
    rw [List.all_eq_true] at h
    exact h x (by
      have := List.mem_reverse.1 hx
      have := (List.dropWhile_sublist _).subset this
      exact List.mem_reverse.1 this)

theorem trimS_name (l : List UInt8) : decide (Lib.trimS l mayL = []) = l.all nmC := by
  have : l.all nmC = l.all (mayL.contains ·) := by
    congr 1
    funext c
    exact (mayL_any c).symm
  rw [this]
  cases h : l.all (mayL.contains ·) with
  | true => exact decide_eq_true ((trimS_nil l mayL).2 h)
  | false => exact decide_eq_false fun e => by rw [(trimS_nil l mayL).1 e] at h; cases h

theorem trim_any (s : ByteArray) (w : World) (hs : s.size ≤ maxLen) :
    Calls Tryz.prog 59 #[.string s, .string ⟨mayL.toArray⟩] w fun e w' => e = .returned (.string ⟨(Lib.trimS s.data.toList mayL).toArray⟩) ∧ Below w.heap.size w w' :=
  Any.strings_Trim_laid Tryz.trimL (by kernel_rfl) s ⟨mayL.toArray⟩ w (by unfold maxLen at hs; omega) (by decide) (ascii_of_all (by decide))

set_option maxRecDepth 100000 in
theorem farName_any (w : World) (s : ByteArray) (hs : s.size ≤ maxLen) :
    Calls Tryz.prog 46 #[.string s] w fun e w' => e = .returned (.bool (nmOk s.data.toList)) ∧ Below w.heap.size w w' := by
  have hsz := size_list s
  by_cases h1 : s.size < 1
  · have : nmOk s.data.toList = false := by unfold nmOk; rw [decide_eq_false (show ¬ 1 ≤ s.data.toList.length by omega)]; simp
    rw [this]
    go_enter Tryz.func46, Tryz.ntmps46
    go_wp2
    go_ret
    exact ⟨rfl, Below.refl _ _⟩
  · by_cases h2 : 40 < s.size
    · have : nmOk s.data.toList = false := by unfold nmOk; rw [decide_eq_false (show ¬ s.data.toList.length ≤ 40 by omega)]; simp
      rw [this]
      go_enter Tryz.func46, Tryz.ntmps46
      go_wp2
      go_ret
      exact ⟨rfl, Below.refl _ _⟩
    · have HT := Lib.hid (trim_any s w hs)
      have hn : nmOk s.data.toList = decide (Lib.trimS s.data.toList mayL = []) := by
        rw [trimS_name]
        unfold nmOk
        rw [decide_eq_true (show 1 ≤ s.data.toList.length by omega), decide_eq_true (show s.data.toList.length ≤ 40 by omega), Bool.and_true, Bool.and_true]
      rw [hn]
      obtain ⟨T, hT⟩ : ∃ T, T = Lib.trimS s.data.toList mayL := ⟨_, rfl⟩
      rw [← hT] at HT ⊢
      clear hn hT hsz
      go_enter Tryz.func46, Tryz.ntmps46
      go_wp2_with (go_at_call 59; refine HT.out.mono ?_; rintro e w1 ⟨rfl, hb⟩)
      go_ret
      refine ⟨?_, hb⟩
      show Ending.returned (Value.bool T.isEmpty) = _
      cases T <;> rfl
end Go.Proofs.YtljjgpjaleekdaaGreatDoor
