/-
  All names in order; copies of slices and of maps.
-/
import Derived.Test.YtmlijnekidihbaaDiskRename
import Derived.Test.YtmlijnekidihbaaLay
namespace Go.Proofs.Ytmlijnekidihbaa
open Go.RowKit Go.Maps Go.Sort Go.Shelf

theorem sorts_in (m : Nat) : AnyZ.SortsIn Try.prog Try.sortedL_ren Fence.wide m :=
  ⟨fun blk off cap ss W hH hblk hsz => callsIn_wide.2 (AnyM.slices_Sort_string Try.sortL blk off cap ss W hH hblk hsz),
   fun p cap W => callsIn_wide.2 (AnyM.slices_Sort_string_none Try.sortL p cap W)⟩

theorem keys_any (mb : Option Nat) (W : World) : Calls Try.prog 63 #[.map mb] W fun e w' => e = .returned (.func (.func 71) #[] #[.pointer (some ⟨W.heap.size, 0, none⟩)]) ∧ w' = W.alloc (.cells #[.map mb] 57) :=
  callsIn_wide.1 (AnyZ.keys_in Try.keysL Fence.wide 5 trivial rfl mb W)

set_option maxRecDepth 100000 in
set_option maxHeartbeats 1000000 in
theorem sorted_own (b nn : Nat) (D0 : DataW Unit) (R : Value → Option (DataW Unit × List MemPlace)) (w : World) (hown : w.ownsMap Try.prog 9 R b nn D0) (hmax : Maps.size D0 ≤ maxLen) (hbytes : Maps.size D0 * 16 ≤ 140737488355328) :
    Calls Try.prog 62 #[.func (.func 71) #[] #[.pointer (some ⟨w.heap.size, 0, none⟩)]] (w.alloc (.cells #[.map (some b)] 57)) fun e w' => ∃ (v : Value) (ss : List (List UInt8)), e = .returned v ∧ ss.Perm (strKeys D0) ∧
      w'.ownsRow (w.alloc (.cells #[.map (some b)] 57)).heap.size 9 1 v ss.length ((ss.mergeSort (fun x y => decide (x ≤ y))).map encStr) ∧ (v = .slice none 0 0 ↔ ss = []) ∧ Below (w.alloc (.cells #[.map (some b)] 57)).heap.size (w.alloc (.cells #[.map (some b)] 57)) w' := by
  have hbl := hown.lt
  have hseq : SeqGives Fence.wide 2 Try.prog 71 #[.pointer (some ⟨w.heap.size, 0, none⟩)] encStr (fun ss => ss.Perm (strKeys D0)) (Maps.size D0) (w.alloc (.cells #[.map (some b)] 57)) :=
    AnyZ.keys_gives (ρ := Try.keysL_ren) { Try.keysL with } Fence.wide _ trivial rfl (by omega) w.heap.size b nn D0 _ (by simp) (by simp) (by
      obtain ⟨es, clock, hb, Ft, hs, hD⟩ := hown
      exact ⟨es, clock, (Below.heap_alloc _ _ b hbl).trans hb, Ft, hs, hD⟩)
  exact callsIn_wide.1 (AnyZ.sorted_in Try.sortedL Fence.wide 5 trivial trivial trivial trivial rfl (by omega) (sorts_in _) (enters_of Try.func70 (by kernel_rfl) rfl) 71 #[.pointer (some ⟨w.heap.size, 0, none⟩)] trivial (enters_of Try.func71 (by kernel_rfl) rfl) _ _ hmax hbytes _ hseq)

set_option maxRecDepth 100000 in
set_option maxHeartbeats 1000000 in
theorem sorted_nil (w : World) :
    Calls Try.prog 62 #[.func (.func 71) #[] #[.pointer (some ⟨w.heap.size, 0, none⟩)]] (w.alloc (.cells #[.map none] 57)) fun e w' => ∃ (v : Value) (ss : List (List UInt8)), e = .returned v ∧ ss = [] ∧
      w'.ownsRow (w.alloc (.cells #[.map none] 57)).heap.size 9 1 v ss.length ((ss.mergeSort (fun x y => decide (x ≤ y))).map encStr) ∧ (v = .slice none 0 0 ↔ ss = []) ∧ Below (w.alloc (.cells #[.map none] 57)).heap.size (w.alloc (.cells #[.map none] 57)) w' := by
  have hseq : SeqGives Fence.wide 2 Try.prog 71 #[.pointer (some ⟨w.heap.size, 0, none⟩)] encStr (fun ss : List (List UInt8) => ss = []) 0 (w.alloc (.cells #[.map none] 57)) :=
    AnyZ.keys_gives_nil (ρ := Try.keysL_ren) { Try.keysL with } Fence.wide _ trivial rfl w.heap.size _ (by simp) (by simp)
  exact callsIn_wide.1 (AnyZ.sorted_in Try.sortedL Fence.wide 5 trivial trivial trivial trivial rfl (by omega) (sorts_in _) (enters_of Try.func70 (by kernel_rfl) rfl) 71 #[.pointer (some ⟨w.heap.size, 0, none⟩)] trivial (enters_of Try.func71 (by kernel_rfl) rfl) _ 0 (Nat.zero_le _) (by omega) _ hseq)

theorem before_lt : ∀ {a b : List UInt8}, bytesBefore a b = true → a ≤ b
  | [], _, _ => List.nil_le _
  | _ :: _, [], h => by simp [bytesBefore] at h
  | a :: r, b :: t, h => by
    unfold bytesBefore at h
    simp only [Bool.or_eq_true, Bool.and_eq_true, decide_eq_true_eq, beq_iff_eq] at h
    rw [List.cons_le_cons_iff]
    rcases h with h | ⟨rfl, h⟩
    · exact .inl h
    · exact .inr ⟨rfl, before_lt h⟩

theorem srt_sorted {l : DB} (h : Srt l) : (l.map (·.1)).mergeSort (fun x y => decide (x ≤ y)) = l.map (·.1) := by
  refine List.mergeSort_of_pairwise ?_
  rw [List.pairwise_map]
  exact h.imp fun h => by simpa using before_lt h

def nmCells (l : DB) : List Value := l.map fun x => .string (strB x.1)

theorem sorted_names {l : DB} (h : Srt l) {ss : List (List UInt8)} (hp : ss.Perm (l.map (·.1))) : (ss.mergeSort (fun x y => decide (x ≤ y))).map encStr = nmCells l ∧ ss.length = l.length := by
  refine ⟨?_, by rw [hp.length_eq, List.length_map]⟩
  have := Go.mergeSort_of_perm hp
  rw [this, srt_sorted h, List.map_map]
  rfl

set_option maxRecDepth 100000 in
set_option maxHeartbeats 1000000 in
theorem rising_any (w : World) (p : Nat) (nv : Value) (l : DB) (hc : w.cell? ⟨p, 6, none⟩ = some nv) (hn : Nm w nv l) (hl : l.length < 1000000000000) :
    Calls Try.prog 33 #[.pointer (some ⟨p, 0, none⟩)] w fun e w' => ∃ v, e = .returned v ∧ w'.ownsRow w.heap.size 9 1 v l.length (nmCells l) ∧ Below w.heap.size w w' := by
  have hsrt := Lib.hid hn.srt
  rcases hn with ⟨rfl, rfl⟩ | ⟨b, rfl, hm⟩
  · have h1 := Lib.hid (keys_any none w)
    have h2 := Lib.hid (sorted_nil w)
    go_enter Try.func33, Try.ntmps33
    go_wp2_with (first | (go_at_call 63; refine h1.out.mono ?_; rintro e w' ⟨rfl, rfl⟩) | (go_at_call 62; refine h2.out.mono ?_; rintro e w' ⟨v, ss, rfl, rfl, hrow, _, hb⟩))
    go_ret
    refine ⟨v, rfl, ?_, ((Below.refl _ w).alloc (Nat.le_refl _) _).trans (hb.mono (by simp))⟩
    exact own_base (by simpa [nmCells] using hrow) fun k hk => by have := (World.ownsRow.lt hrow k hk).1; simp at this; omega
  · have h1 := Lib.hid (keys_any (some b) w)
    have h2 := Lib.hid (sorted_own b l.length (mapD l) _ w hm (by rw [mapD_size]; unfold maxLen; omega) (by rw [mapD_size]; omega))
    have HM := Lib.hid hm
    clear hm
    go_enter Try.func33, Try.ntmps33
    go_wp2_with (first | (go_at_call 63; refine h1.out.mono ?_; rintro e w' ⟨rfl, rfl⟩) | (go_at_call 62; refine h2.out.mono ?_; rintro e w' ⟨v, ss, rfl, hS, hrow, _, hb⟩))
    go_ret
    refine ⟨v, rfl, ?_, ((Below.refl _ w).alloc (Nat.le_refl _) _).trans (hb.mono (by simp))⟩
    rw [mapD_keys] at hS
    obtain ⟨e1, e2⟩ := sorted_names hsrt.out hS
    rw [e1, e2] at hrow
    exact own_base hrow fun k hk => by have := (World.ownsRow.lt hrow k hk).1; simp at this; omega

theorem mclone_any (w : World) (v : Value) (l : DB) (hn : Nm w v l) :
    Calls Try.prog 30 #[v] w fun e w' => ∃ v', e = .returned v' ∧ Nm w' v' l ∧ Below w.heap.size w w' ∧ (∀ k, mapBlock v' = some k → w.heap.size ≤ k ∧ k < w'.heap.size) := by
  rcases hn with ⟨rfl, rfl⟩ | ⟨b, rfl, hm⟩
  · refine Calls.mono (AnyW.maps_Clone_nil Try.cloneL w) ?_
    rintro e w' ⟨rfl, rfl⟩
    exact ⟨_, rfl, .inl ⟨rfl, rfl⟩, Below.refl _ _, fun k hk => by cases hk⟩
  · refine Calls.mono (AnyW.maps_Clone_owns Try.cloneL 9 _ b l.length (mapD l) w hm) ?_
    rintro e w' ⟨rfl, h1, _, hB⟩
    exact ⟨_, rfl, .inr ⟨_, rfl, h1⟩, hB, fun k hk => by cases hk; exact ⟨Nat.le_refl _, h1.lt⟩⟩
end Go.Proofs.Ytmlijnekidihbaa
