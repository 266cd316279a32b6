import Derived.Shelf.SlMaps.Clone
import Derived.Shelf.SlIter.Nil
import Derived.Shelf.SortM.Plain
import Derived.Shelf.SortM.SortNone
import Derived.Ground.SlmcProg
import Derived.Ground.GgzProg
import Derived.Ground.SlgmProg
import Derived.Test.YtfeogoihkpclcaaProg
import Derived.Test.YtfeogoihkpclcaaMg06

/-
  Contracts of the library (slices.Sorted over maps.Keys, maps.Clone), laid at this program.
-/
namespace Go.Proofs.Ytfeogoihkpclcaa
open Go.Shelf
def Try.keysL_ren : Go.Shelf.Ren := ⟨fun | 7 => 73 | 10 => 78 | n => n, fun | 23 => 48 | 26 => 9 | 3 => 3 | 28 => 111 | 0 => 0 | 27 => 110 | 33 => 89 | 4 => 4 | n => n, fun | n => n⟩
theorem Try.keysL : Go.Proofs.SlLaysZ.n7 Try.prog Try.keysL_ren := {
  mixed := by kernel_rfl
  f7 := ⟨Try.f73.name, by decide, Try.func73.trans (congrArg some (by kernel_rfl))⟩
  f10 := ⟨Try.f78.name, by decide, Try.func78.trans (congrArg some (by kernel_rfl))⟩
  t0 := Try.underlying0
  a0 := Try.isAgg0
  z0 := Try.sizeOf0
  v0 := Try.zeroValue0
  t4 := Try.underlying4
  a4 := Try.isAgg4
  z4 := Try.sizeOf4
  v4 := Try.zeroValue4
  t23 := Try.underlying48
  a23 := Try.isAgg48
  z23 := Try.sizeOf48
  v23 := Try.zeroValue48
  t26 := Try.underlying9
  a26 := Try.isAgg9
  z26 := Try.sizeOf9
  v26 := Try.zeroValue9
  t27 := Try.underlying110
  a27 := Try.isAgg110
  z27 := Try.sizeOf110
  v27 := Try.zeroValue110
  t28 := Try.underlying111
  a28 := Try.isAgg111
  z28 := Try.sizeOf111
  v28 := Try.zeroValue111
  t33 := Try.underlying89
  a33 := Try.isAgg89
  z33 := Try.sizeOf89
  v33 := Try.zeroValue89 }
def Try.sortedL_ren : Go.Shelf.Ren := ⟨fun | 6 => 72 | 8 => 76 | 9 => 77 | 11 => 79 | 13 => 81 | 12 => 80 | 23 => 91 | 24 => 92 | 14 => 82 | 15 => 83 | 16 => 84 | 17 => 85 | 18 => 86 | 19 => 87 | 20 => 88 | 21 => 89 | 22 => 90 | 25 => 93 | 26 => 94 | 27 => 95 | 28 => 96 | 29 => 97 | 30 => 98 | 31 => 99 | n => n, fun | 26 => 9 | 28 => 111 | 24 => 81 | 0 => 0 | 3 => 3 | 37 => 119 | 48 => 129 | 50 => 131 | 4 => 4 | 40 => 122 | 39 => 121 | 45 => 77 | 5 => 5 | 9 => 9 | 51 => 132 | 55 => 136 | 57 => 138 | 58 => 139 | 33 => 89 | n => n, fun | n => n⟩
theorem Try.sortedL : Go.Proofs.SlLaysZ.n6 Try.prog Try.sortedL_ren := {
  mixed := by kernel_rfl
  f6 := ⟨Try.f72.name, by decide, Try.func72.trans (congrArg some (by kernel_rfl))⟩
  f8 := ⟨Try.f76.name, by decide, Try.func76.trans (congrArg some (by kernel_rfl))⟩
  f11 := ⟨Try.f79.name, by decide, Try.func79.trans (congrArg some (by kernel_rfl))⟩
  t0 := Try.underlying0
  a0 := Try.isAgg0
  z0 := Try.sizeOf0
  v0 := Try.zeroValue0
  t24 := Try.underlying81
  a24 := Try.isAgg81
  z24 := Try.sizeOf81
  v24 := Try.zeroValue81
  t26 := Try.underlying9
  a26 := Try.isAgg9
  z26 := Try.sizeOf9
  v26 := Try.zeroValue9
  t28 := Try.underlying111
  a28 := Try.isAgg111
  z28 := Try.sizeOf111
  v28 := Try.zeroValue111
  i26 := by kernel_rfl }
def Try.sortL_ren : Go.Shelf.Ren := ⟨fun | 6 => 77 | 8 => 81 | 9 => 80 | 19 => 91 | 20 => 92 | 21 => 82 | 22 => 83 | 23 => 84 | 24 => 85 | 25 => 86 | 26 => 87 | 27 => 88 | 28 => 89 | 29 => 90 | 36 => 93 | 31 => 94 | 32 => 95 | 37 => 96 | 38 => 97 | 39 => 98 | 41 => 99 | n => n, fun | 27 => 81 | 29 => 9 | 3 => 3 | 32 => 119 | 26 => 81 | 0 => 0 | 44 => 129 | 46 => 131 | 4 => 4 | 36 => 122 | 35 => 121 | 41 => 77 | 5 => 5 | 9 => 9 | 53 => 132 | 57 => 136 | 63 => 138 | 64 => 139 | n => n, fun | n => n⟩
theorem Try.sortL : Go.Proofs.SlLaysM.n6 Try.prog Try.sortL_ren := {
  mixed := by kernel_rfl
  f6 := ⟨Try.f77.name, by decide, Try.func77.trans (congrArg some (by kernel_rfl))⟩
  f8 := Try.func81.trans (congrArg some (by kernel_rfl))
  f9 := ⟨Try.f80.name, by decide, Try.func80.trans (congrArg some (by kernel_rfl))⟩
  f19 := Try.func91.trans (congrArg some (by kernel_rfl))
  f20 := Try.func92.trans (congrArg some (by kernel_rfl))
  f21 := ⟨Try.f82.name, by decide, Try.func82.trans (congrArg some (by kernel_rfl))⟩
  f22 := ⟨Try.f83.name, by decide, Try.func83.trans (congrArg some (by kernel_rfl))⟩
  f23 := ⟨Try.f84.name, by decide, Try.func84.trans (congrArg some (by kernel_rfl))⟩
  f24 := ⟨Try.f85.name, by decide, Try.func85.trans (congrArg some (by kernel_rfl))⟩
  f25 := ⟨Try.f86.name, by decide, Try.func86.trans (congrArg some (by kernel_rfl))⟩
  f26 := ⟨Try.f87.name, by decide, Try.func87.trans (congrArg some (by kernel_rfl))⟩
  f27 := ⟨Try.f88.name, by decide, Try.func88.trans (congrArg some (by kernel_rfl))⟩
  f28 := ⟨Try.f89.name, by decide, Try.func89.trans (congrArg some (by kernel_rfl))⟩
  f29 := ⟨Try.f90.name, by decide, Try.func90.trans (congrArg some (by kernel_rfl))⟩
  f31 := Try.func94.trans (congrArg some (by kernel_rfl))
  f32 := Try.func95.trans (congrArg some (by kernel_rfl))
  f36 := ⟨Try.f93.name, by decide, Try.func93.trans (congrArg some (by kernel_rfl))⟩
  f37 := ⟨Try.f96.name, by decide, Try.func96.trans (congrArg some (by kernel_rfl))⟩
  f38 := ⟨Try.f97.name, by decide, Try.func97.trans (congrArg some (by kernel_rfl))⟩
  f39 := ⟨Try.f98.name, by decide, Try.func98.trans (congrArg some (by kernel_rfl))⟩
  f41 := ⟨Try.f99.name, by decide, Try.func99.trans (congrArg some (by kernel_rfl))⟩
  t0 := Try.underlying0
  a0 := Try.isAgg0
  z0 := Try.sizeOf0
  v0 := Try.zeroValue0
  t3 := Try.underlying3
  a3 := Try.isAgg3
  z3 := Try.sizeOf3
  v3 := Try.zeroValue3
  t4 := Try.underlying4
  a4 := Try.isAgg4
  z4 := Try.sizeOf4
  v4 := Try.zeroValue4
  t5 := Try.underlying5
  a5 := Try.isAgg5
  z5 := Try.sizeOf5
  v5 := Try.zeroValue5
  t9 := Try.underlying9
  a9 := Try.isAgg9
  z9 := Try.sizeOf9
  v9 := Try.zeroValue9
  t26 := Try.underlying81
  a26 := Try.isAgg81
  z26 := Try.sizeOf81
  v26 := Try.zeroValue81
  t27 := Try.underlying81
  a27 := Try.isAgg81
  z27 := Try.sizeOf81
  v27 := Try.zeroValue81
  t29 := Try.underlying9
  a29 := Try.isAgg9
  z29 := Try.sizeOf9
  v29 := Try.zeroValue9
  t32 := Try.underlying119
  a32 := Try.isAgg119
  z32 := Try.sizeOf119
  v32 := Try.zeroValue119
  t35 := Try.underlying121
  a35 := Try.isAgg121
  z35 := Try.sizeOf121
  v35 := Try.zeroValue121
  t36 := Try.underlying122
  a36 := Try.isAgg122
  z36 := Try.sizeOf122
  v36 := Try.zeroValue122
  t41 := Try.underlying77
  a41 := Try.isAgg77
  z41 := Try.sizeOf77
  v41 := Try.zeroValue77
  t44 := Try.underlying129
  a44 := Try.isAgg129
  z44 := Try.sizeOf129
  v44 := Try.zeroValue129
  t46 := Try.underlying131
  a46 := Try.isAgg131
  z46 := Try.sizeOf131
  v46 := Try.zeroValue131
  t53 := Try.underlying132
  a53 := Try.isAgg132
  z53 := Try.sizeOf132
  v53 := Try.zeroValue132
  t57 := Try.underlying136
  a57 := Try.isAgg136
  z57 := Try.sizeOf136
  v57 := Try.zeroValue136
  t63 := Try.underlying138
  a63 := Try.isAgg138
  z63 := Try.sizeOf138
  v63 := Try.zeroValue138
  t64 := Try.underlying139
  a64 := Try.isAgg139
  z64 := Try.sizeOf139
  v64 := Try.zeroValue139 }
def Try.cloneL_ren : Go.Shelf.Ren := ⟨fun | 5 => 25 | 7 => 60 | n => n, fun | 23 => 48 | 25 => 9 | 3 => 3 | 4 => 4 | 20 => 20 | n => n, fun | n => n⟩
theorem Try.cloneL : Go.Proofs.SlLaysW.n5 Try.prog Try.cloneL_ren := {
  mixed := by kernel_rfl
  f5 := ⟨Try.f25.name, by decide, Try.func25.trans (congrArg some (by kernel_rfl))⟩
  f7 := Try.func60.trans (congrArg some (by kernel_rfl))
  t4 := Try.underlying4
  a4 := Try.isAgg4
  z4 := Try.sizeOf4
  v4 := Try.zeroValue4
  t20 := Try.underlying20
  a20 := Try.isAgg20
  z20 := Try.sizeOf20
  v20 := Try.zeroValue20
  t23 := Try.underlying48
  a23 := Try.isAgg48
  z23 := Try.sizeOf48
  v23 := Try.zeroValue48 }
end Go.Proofs.Ytfeogoihkpclcaa

/-
  All names in order; copies of slices and of maps.
-/
namespace Go.Proofs.Ytfeogoihkpclcaa
open Go.RowKit Go.Maps Go.Sort Go.Shelf

theorem sorts_in (m : Nat) : AnyZ.SortsIn Try.prog Try.sortedL_ren Fence.wide m :=
  ⟨fun blk off cap ss W hH hblk hsz => callsIn_wide.2 (AnyM.slices_Sort_string Try.sortL blk off cap ss W hH hblk hsz),
   fun p cap W => callsIn_wide.2 (AnyM.slices_Sort_string_none Try.sortL p cap W)⟩

theorem keys_any (mb : Option Nat) (W : World) : Calls Try.prog 73 #[.map mb] W fun e w' => e = .returned (.func (.func 78) #[] #[.pointer (some ⟨W.heap.size, 0, none⟩)]) ∧ w' = W.alloc (.cells #[.map mb] 48) :=
  callsIn_wide.1 (AnyZ.keys_in Try.keysL Fence.wide 5 trivial rfl mb W)

set_option maxHeartbeats 1000000 in
theorem sorted_own (b nn : Nat) (D0 : DataW Unit) (R : Value → Option (DataW Unit × List MemPlace)) (w : World) (hown : w.ownsMap Try.prog 9 R b nn D0) (hmax : Maps.size D0 ≤ maxLen) (hbytes : Maps.size D0 * 16 ≤ 140737488355328) :
    Calls Try.prog 72 #[.func (.func 78) #[] #[.pointer (some ⟨w.heap.size, 0, none⟩)]] (w.alloc (.cells #[.map (some b)] 48)) fun e w' => ∃ (v : Value) (ss : List (List UInt8)), e = .returned v ∧ ss.Perm (strKeys D0) ∧
      w'.ownsRow (w.alloc (.cells #[.map (some b)] 48)).heap.size 9 1 v ss.length ((ss.mergeSort (fun x y => decide (x ≤ y))).map encStr) ∧ (v = .slice none 0 0 ↔ ss = []) ∧ Below (w.alloc (.cells #[.map (some b)] 48)).heap.size (w.alloc (.cells #[.map (some b)] 48)) w' := by
  have hbl := hown.lt
  have hseq : SeqGives Fence.wide 2 Try.prog 78 #[.pointer (some ⟨w.heap.size, 0, none⟩)] encStr (fun ss => ss.Perm (strKeys D0)) (Maps.size D0) (w.alloc (.cells #[.map (some b)] 48)) :=
    AnyZ.keys_gives (ρ := Try.keysL_ren) { Try.keysL with } Fence.wide _ trivial rfl (by omega) w.heap.size b nn D0 _ (by simp) (by simp) (by
      obtain ⟨es, clock, hb, Ft, hs, hD⟩ := hown
      exact ⟨es, clock, (Below.heap_alloc _ _ b hbl).trans hb, Ft, hs, hD⟩)
  exact callsIn_wide.1 (AnyZ.sorted_in Try.sortedL Fence.wide 5 trivial trivial trivial trivial rfl (by omega) (sorts_in _) (enters_of Try.func77 (by kernel_rfl) rfl) 78 #[.pointer (some ⟨w.heap.size, 0, none⟩)] trivial (enters_of Try.func78 (by kernel_rfl) rfl) _ _ hmax hbytes _ hseq)

set_option maxHeartbeats 1000000 in
theorem sorted_nil (w : World) :
    Calls Try.prog 72 #[.func (.func 78) #[] #[.pointer (some ⟨w.heap.size, 0, none⟩)]] (w.alloc (.cells #[.map none] 48)) fun e w' => ∃ (v : Value) (ss : List (List UInt8)), e = .returned v ∧ ss = [] ∧
      w'.ownsRow (w.alloc (.cells #[.map none] 48)).heap.size 9 1 v ss.length ((ss.mergeSort (fun x y => decide (x ≤ y))).map encStr) ∧ (v = .slice none 0 0 ↔ ss = []) ∧ Below (w.alloc (.cells #[.map none] 48)).heap.size (w.alloc (.cells #[.map none] 48)) w' := by
  have hseq : SeqGives Fence.wide 2 Try.prog 78 #[.pointer (some ⟨w.heap.size, 0, none⟩)] encStr (fun ss : List (List UInt8) => ss = []) 0 (w.alloc (.cells #[.map none] 48)) :=
    AnyZ.keys_gives_nil (ρ := Try.keysL_ren) { Try.keysL with } Fence.wide _ trivial rfl w.heap.size _ (by simp) (by simp)
  exact callsIn_wide.1 (AnyZ.sorted_in Try.sortedL Fence.wide 5 trivial trivial trivial trivial rfl (by omega) (sorts_in _) (enters_of Try.func77 (by kernel_rfl) rfl) 78 #[.pointer (some ⟨w.heap.size, 0, none⟩)] trivial (enters_of Try.func78 (by kernel_rfl) rfl) _ 0 (Nat.zero_le _) (by omega) _ hseq)

theorem before_lt : ∀ {a b : List UInt8}, bytesBefore a b = true → a ≤ b
  | [], _, _ => List.nil_le _
  | _ :: _, [], h => by simp [bytesBefore] at h
  | a :: r, b :: t, h => by
    unfold bytesBefore at h
    simp only [Bool.or_eq_true, Bool.and_eq_true, decide_eq_true_eq, beq_iff_eq] at h
    rw [List.cons_le_cons_iff]
    rcases h with h | ⟨rfl, h⟩
    · exact .inl h
    · exact .inr ⟨rfl, before_lt h⟩

theorem srt_sorted {l : DB} (h : Srt l) : (l.map (·.1)).mergeSort (fun x y => decide (x ≤ y)) = l.map (·.1) := by
  refine List.mergeSort_of_pairwise ?_
  rw [List.pairwise_map]
  exact h.imp fun h => by simpa using before_lt h

def nmCells (l : DB) : List Value := l.map fun x => .string (strB x.1)

theorem sorted_names {l : DB} (h : Srt l) {ss : List (List UInt8)} (hp : ss.Perm (l.map (·.1))) : (ss.mergeSort (fun x y => decide (x ≤ y))).map encStr = nmCells l ∧ ss.length = l.length := by
  refine ⟨?_, by rw [hp.length_eq, List.length_map]⟩
  have := Go.mergeSort_of_perm hp
  rw [this, srt_sorted h, List.map_map]
  rfl

set_option maxRecDepth 100000 in
set_option maxHeartbeats 1000000 in
theorem rising_any (w : World) (p : Nat) (nv : Value) (l : DB) (hc : w.cell? ⟨p, 6, none⟩ = some nv) (hn : Nm w nv l) (hl : l.length < 1000000000000) :
    Calls Try.prog 41 #[.pointer (some ⟨p, 0, none⟩)] w fun e w' => ∃ v, e = .returned v ∧ w'.ownsRow w.heap.size 9 1 v l.length (nmCells l) ∧ Below w.heap.size w w' := by
  have hsrt := Lib.hid hn.srt
  rcases hn with ⟨rfl, rfl⟩ | ⟨b, rfl, hm⟩
  · have h1 := Lib.hid (keys_any none w)
    have h2 := Lib.hid (sorted_nil w)
    go_enter Try.func41, Try.ntmps41
    go_wp2_with (first | (go_at_call 73; refine h1.out.mono ?_; rintro e w' ⟨rfl, rfl⟩) | (go_at_call 72; refine h2.out.mono ?_; rintro e w' ⟨v, ss, rfl, rfl, hrow, _, hb⟩))
    go_ret
    refine ⟨v, rfl, ?_, ((Below.refl _ w).alloc (Nat.le_refl _) _).trans (hb.mono (by simp))⟩
    exact own_base (by simpa [nmCells] using hrow) fun k hk => by have := (World.ownsRow.lt hrow k hk).1; simp at this; omega
  · have h1 := Lib.hid (keys_any (some b) w)
    have h2 := Lib.hid (sorted_own b l.length (mapD l) _ w hm (by rw [mapD_size]; unfold maxLen; omega) (by rw [mapD_size]; omega))
    have HM := Lib.hid hm
    clear hm
    go_enter Try.func41, Try.ntmps41
    go_wp2_with (first | (go_at_call 73; refine h1.out.mono ?_; rintro e w' ⟨rfl, rfl⟩) | (go_at_call 72; refine h2.out.mono ?_; rintro e w' ⟨v, ss, rfl, hS, hrow, _, hb⟩))
    go_ret
    refine ⟨v, rfl, ?_, ((Below.refl _ w).alloc (Nat.le_refl _) _).trans (hb.mono (by simp))⟩
    rw [mapD_keys] at hS
    obtain ⟨e1, e2⟩ := sorted_names hsrt.out hS
    rw [e1, e2] at hrow
    exact own_base hrow fun k hk => by have := (World.ownsRow.lt hrow k hk).1; simp at this; omega

theorem mclone_any (w : World) (v : Value) (l : DB) (hn : Nm w v l) :
    Calls Try.prog 25 #[v] w fun e w' => ∃ v', e = .returned v' ∧ Nm w' v' l ∧ Below w.heap.size w w' ∧ (∀ k, mapBlock v' = some k → w.heap.size ≤ k ∧ k < w'.heap.size) := by
  rcases hn with ⟨rfl, rfl⟩ | ⟨b, rfl, hm⟩
  · refine Calls.mono (AnyW.maps_Clone_nil Try.cloneL w) ?_
    rintro e w' ⟨rfl, rfl⟩
    exact ⟨_, rfl, .inl ⟨rfl, rfl⟩, Below.refl _ _, fun k hk => by cases hk⟩
  · refine Calls.mono (AnyW.maps_Clone_owns Try.cloneL 9 _ b l.length (mapD l) w hm) ?_
    rintro e w' ⟨rfl, h1, _, hB⟩
    exact ⟨_, rfl, .inr ⟨_, rfl, h1⟩, hB, fun k hk => by cases hk; exact ⟨Nat.le_refl _, h1.lt⟩⟩
end Go.Proofs.Ytfeogoihkpclcaa

/-
  Copies of slices (slices.Clone); a file that falls; how many bytes all files have.
-/
namespace Go.Proofs.Ytfeogoihkpclcaa
open Go.RowKit

section
variable {P : Program} {w : World} {o : Oper} {a : Act} {K : Act → World → Prop} {Q : Exit → Act → World → Prop}

theorem put_one (l : List (Nat × List UInt8)) : ∀ u ∈ putCells l, u.oneCell' = true := by
  intro u hu
  unfold putCells at hu
  obtain ⟨p, _, hp⟩ := List.mem_flatMap.1 hu
  rcases List.mem_cons.1 hp with rfl | hp
  · rfl
  · obtain rfl := List.mem_singleton.1 hp
    rfl

theorem ch_one (l : List PC) : ∀ u ∈ chCells l, u.oneCell' = true := by
  intro u hu
  unfold chCells at hu
  obtain ⟨p, _, hp⟩ := List.mem_flatMap.1 hu
  simp only [List.mem_cons, List.not_mem_nil, or_false] at hp
  rcases hp with rfl | rfl | rfl | rfl <;> rfl

end

theorem eqn_bytes (w : World) : (binOp .eql 32 (.slice none 0 0) (.slice none 0 0)).run Try.prog w = .ok (.bool true) w := by kernel_rfl
theorem eqs_bytes (ad : Addr) (n cap : Nat) (w : World) : (binOp .eql 32 (.slice (some ad) n cap) (.slice none 0 0)).run Try.prog w = .ok (.bool false) w := by kernel_rfl

set_option maxRecDepth 100000 in
set_option maxHeartbeats 1000000 in
theorem clone_bytes (w : World) (v : Value) (n : Nat) (cs : List Value) (h : Rd w 1 v n cs) (hone : ∀ u ∈ cs, u.oneCell' = true) (hn : n < 1000000000000) :
    Calls Try.prog 23 #[v] w fun e w' => ∃ v', e = .returned v' ∧ w'.ownsRow 0 5 1 v' n cs ∧ Below w.heap.size w w' ∧ (∀ k, v'.ownBlock = some k → w.heap.size ≤ k ∧ k < w'.heap.size) := by
  have h0 := h
  obtain ⟨a, cap, rfl, h1, h2, h3, h4⟩ := h
  by_cases hnil : a = none
  · subst hnil
    rcases h4 with ⟨rfl, hc⟩ | ⟨b, off, hb, _⟩
    · obtain rfl := hc rfl
      have : cs = [] := List.eq_nil_of_length_eq_zero (by simpa using h3)
      subst this
      have hq := eqn_bytes
      go_enter Try.func23, Try.ntmps23
      go_wp2
      go_ret
      exact ⟨_, rfl, World.ownsRow_nil _ _ _ _, Below.refl _ _, fun k hk => by cases hk⟩
    · cases hb
  · obtain ⟨ad, rfl⟩ := Option.ne_none_iff_exists'.1 hnil
    have hrd : Rd (w.alloc (.cells #[] 5)) 1 (.slice (some ad) n cap) n cs := h0.below ((Below.refl _ _).alloc (Nat.le_refl _) _) (Nat.le_refl _)
    have hrow : (w.alloc (.cells #[] 5)).ownsRow 0 5 1 (.slice (some ⟨w.heap.size, 0, none⟩) 0 0) 0 [] := World.ownsRow_made w #[] 0 (Nat.zero_le _) (Nat.zero_le _) (by simp)
    have hq := eqs_bytes ad n cap
    have Hrd := Lib.hid hrd
    have Hrow := Lib.hid hrow
    have Hone := Lib.hid hone
    have H3 := Lib.hid h3
    have H4 := Lib.hid h4
    have H0 := Lib.hid h0
    clear hrd hrow hone h3 h4 h0
    go_enter Try.func23, Try.ntmps23
    go_wp2_with (at_builtin; refine wpList_plain rfl fun K' hK' => ?_; refine wp_append_at (.tmp 5) (.tmp 6) 32 rfl 5 1 1 (.int .u8 0) Try.underlying32 info_u8 rfl (by decide) _ _ 0 n [] cs rfl rfl Hrow.out Hrd.out Hone.out (by omega) (by unfold maxLen; omega) (fun v' w' hown hmv => hK' _ _ ?_))
    go_ret
    refine ⟨v', rfl, by simpa using hown, ?_, fun k hk => ?_⟩
    · have hb := (Below.refl w.heap.size w).alloc (Nat.le_refl _) (.cells #[] 5)
      exact hb.grown hmv.grown (by simp) (fun k hk => by cases hk; exact Nat.le_refl _)
    · rcases hmv.at_ k hk with h | h
      · cases h
        exact ⟨Nat.le_refl _, own_lt hown _ hk⟩
      · simp at h
        omega

theorem eqn_writes (w : World) : (binOp .eql 57 (.slice none 0 0) (.slice none 0 0)).run Try.prog w = .ok (.bool true) w := by kernel_rfl
theorem eqs_writes (ad : Addr) (n cap : Nat) (w : World) : (binOp .eql 57 (.slice (some ad) n cap) (.slice none 0 0)).run Try.prog w = .ok (.bool false) w := by kernel_rfl

set_option maxRecDepth 100000 in
set_option maxHeartbeats 1000000 in
theorem clone_writes (w : World) (v : Value) (n : Nat) (cs : List Value) (h : Rd w 2 v n cs) (hone : ∀ u ∈ cs, u.oneCell' = true) (hn : n < 1000000000000) :
    Calls Try.prog 24 #[v] w fun e w' => ∃ v', e = .returned v' ∧ w'.ownsRow 0 63 2 v' n cs ∧ Below w.heap.size w w' ∧ (∀ k, v'.ownBlock = some k → w.heap.size ≤ k ∧ k < w'.heap.size) := by
  have h0 := h
  obtain ⟨a, cap, rfl, h1, h2, h3, h4⟩ := h
  by_cases hnil : a = none
  · subst hnil
    rcases h4 with ⟨rfl, hc⟩ | ⟨b, off, hb, _⟩
    · obtain rfl := hc rfl
      have : cs = [] := List.eq_nil_of_length_eq_zero (by simpa using h3)
      subst this
      have hq := eqn_writes
      go_enter Try.func24, Try.ntmps24
      go_wp2
      go_ret
      exact ⟨_, rfl, World.ownsRow_nil _ _ _ _, Below.refl _ _, fun k hk => by cases hk⟩
    · cases hb
  · obtain ⟨ad, rfl⟩ := Option.ne_none_iff_exists'.1 hnil
    have hrd : Rd (w.alloc (.cells #[] 63)) 2 (.slice (some ad) n cap) n cs := h0.below ((Below.refl _ _).alloc (Nat.le_refl _) _) (Nat.le_refl _)
    have hrow : (w.alloc (.cells #[] 63)).ownsRow 0 63 2 (.slice (some ⟨w.heap.size, 0, none⟩) 0 0) 0 [] := World.ownsRow_made w #[] 0 (Nat.zero_le _) (Nat.zero_le _) (by simp)
    have hq := eqs_writes ad n cap
    have Hrd := Lib.hid hrd
    have Hrow := Lib.hid hrow
    have Hone := Lib.hid hone
    have H3 := Lib.hid h3
    have H4 := Lib.hid h4
    have H0 := Lib.hid h0
    clear hrd hrow hone h3 h4 h0
    go_enter Try.func24, Try.ntmps24
    go_wp2_with (at_builtin; refine wpList_plain rfl fun K' hK' => ?_; refine wp_append_at (.tmp 5) (.tmp 6) 57 rfl 63 2 24 (.agg #[.int .i64 0, .string ⟨#[]⟩]) Try.underlying57 info_write rfl (by decide) _ _ 0 n [] cs rfl rfl Hrow.out Hrd.out Hone.out (by omega) (by unfold maxLen; omega) (fun v' w' hown hmv => hK' _ _ ?_))
    go_ret
    refine ⟨v', rfl, by simpa using hown, ?_, fun k hk => ?_⟩
    · have hb := (Below.refl w.heap.size w).alloc (Nat.le_refl _) (.cells #[] 63)
      exact hb.grown hmv.grown (by simp) (fun k hk => by cases hk; exact Nat.le_refl _)
    · rcases hmv.at_ k hk with h | h
      · cases h
        exact ⟨Nat.le_refl _, own_lt hown _ hk⟩
      · simp at h
        omega

theorem eqn_changes (w : World) : (binOp .eql 49 (.slice none 0 0) (.slice none 0 0)).run Try.prog w = .ok (.bool true) w := by kernel_rfl
theorem eqs_changes (ad : Addr) (n cap : Nat) (w : World) : (binOp .eql 49 (.slice (some ad) n cap) (.slice none 0 0)).run Try.prog w = .ok (.bool false) w := by kernel_rfl

set_option maxRecDepth 100000 in
set_option maxHeartbeats 1000000 in
theorem clone_changes (w : World) (v : Value) (n : Nat) (cs : List Value) (h : Rd w 4 v n cs) (hone : ∀ u ∈ cs, u.oneCell' = true) (hn : n < 1000000000000) :
    Calls Try.prog 26 #[v] w fun e w' => ∃ v', e = .returned v' ∧ w'.ownsRow 0 67 4 v' n cs ∧ Below w.heap.size w w' ∧ (∀ k, v'.ownBlock = some k → w.heap.size ≤ k ∧ k < w'.heap.size) := by
  have h0 := h
  obtain ⟨a, cap, rfl, h1, h2, h3, h4⟩ := h
  by_cases hnil : a = none
  · subst hnil
    rcases h4 with ⟨rfl, hc⟩ | ⟨b, off, hb, _⟩
    · obtain rfl := hc rfl
      have : cs = [] := List.eq_nil_of_length_eq_zero (by simpa using h3)
      subst this
      have hq := eqn_changes
      go_enter Try.func26, Try.ntmps26
      go_wp2
      go_ret
      exact ⟨_, rfl, World.ownsRow_nil _ _ _ _, Below.refl _ _, fun k hk => by cases hk⟩
    · cases hb
  · obtain ⟨ad, rfl⟩ := Option.ne_none_iff_exists'.1 hnil
    have hrd : Rd (w.alloc (.cells #[] 67)) 4 (.slice (some ad) n cap) n cs := h0.below ((Below.refl _ _).alloc (Nat.le_refl _) _) (Nat.le_refl _)
    have hrow : (w.alloc (.cells #[] 67)).ownsRow 0 67 4 (.slice (some ⟨w.heap.size, 0, none⟩) 0 0) 0 [] := World.ownsRow_made w #[] 0 (Nat.zero_le _) (Nat.zero_le _) (by simp)
    have hq := eqs_changes ad n cap
    have Hrd := Lib.hid hrd
    have Hrow := Lib.hid hrow
    have Hone := Lib.hid hone
    have H3 := Lib.hid h3
    have H4 := Lib.hid h4
    have H0 := Lib.hid h0
    clear hrd hrow hone h3 h4 h0
    go_enter Try.func26, Try.ntmps26
    go_wp2_with (at_builtin; refine wpList_plain rfl fun K' hK' => ?_; refine wp_append_at (.tmp 5) (.tmp 6) 49 rfl 67 4 48 (.agg #[.int .i64 0, .string ⟨#[]⟩, .string ⟨#[]⟩, .int .i64 0]) Try.underlying49 info_change rfl (by decide) _ _ 0 n [] cs rfl rfl Hrow.out Hrd.out Hone.out (by omega) (by unfold maxLen; omega) (fun v' w' hown hmv => hK' _ _ ?_))
    go_ret
    refine ⟨v', rfl, by simpa using hown, ?_, fun k hk => ?_⟩
    · have hb := (Below.refl w.heap.size w).alloc (Nat.le_refl _) (.cells #[] 67)
      exact hb.grown hmv.grown (by simp) (fun k hk => by cases hk; exact Nat.le_refl _)
    · rcases hmv.at_ k hk with h | h
      · cases h
        exact ⟨Nat.le_refl _, own_lt hown _ hk⟩
      · simp at h
        omega

end Go.Proofs.Ytfeogoihkpclcaa

/-
  A file that falls; how many bytes all files have.
-/
namespace Go.Proofs.Ytfeogoihkpclcaa
open Go.RowKit

theorem rest_lt (n : Int) (m : Nat) : rest n m < m + 1 := by
  unfold rest
  exact Nat.mod_lt _ (by omega)

set_option maxRecDepth 100000 in
set_option maxHeartbeats 2000000 in
theorem ffall_any (w : World) (b off : Nat) (n : Int) (cur : Array Value) (t : Nat) (vs vn vl : Value) (safe : List UInt8) (l : List (Nat × List UInt8)) (hb : w.heap[b]? = some (.cells cur t (0, 0))) (h0 : cur[off]? = some vs) (h1 : cur[off + 1]? = some vn) (h2 : cur[off + 2]? = some vl)
    (hs : OwnB w 0 5 vs safe) (hl : w.ownsRow 0 63 2 vl l.length (putCells l)) (hbs : vs.ownBlock ≠ some b) (hbl : vl.ownBlock ≠ some b) (hsl : ∀ k, vs.ownBlock = some k → vl.ownBlock ≠ some k) (hok : WOk safe l)
    (hsz : safe.length + manyL l < 1000000000) (hln : l.length < 1000000000) (hn : (Lit.int .i64 n).wf = true) (hkl : (kept l (rest n (manyL l)) safe).length < 1000000000000) :
    Calls Try.prog 58 #[.pointer (some ⟨b, off, none⟩), .int .i64 n] w fun e w' => e = .returned (.tuple #[]) ∧ ∃ vs' vn', OwnB w' 0 5 vs' (kept l (rest n (manyL l)) safe) ∧ OwnB w' 0 5 vn' (kept l (rest n (manyL l)) safe) ∧
      w'.heap[b]? = some (.cells (((cur.setIfInBounds off vs').setIfInBounds (off + 2) (.slice none 0 0)).setIfInBounds (off + 1) vn') t (0, 0)) ∧
      Kept (fun k => k < w.heap.size ∧ k ≠ b ∧ vs.ownBlock ≠ some k) w w' ∧ (∀ k, vs'.ownBlock = some k → vs.ownBlock = some k ∨ (w.heap.size ≤ k ∧ k < w'.heap.size)) ∧ (∀ k, vn'.ownBlock = some k → w.heap.size ≤ k ∧ k < w'.heap.size ∧ vs'.ownBlock ≠ some k) := by
  have hm := Lib.hid hsz
  have c2 : w.cell? ⟨b, off + 2, none⟩ = some vl := (blk_cell hb).trans h2
  have hoff1 : off + 1 < cur.size := (Array.getElem?_eq_some_iff.1 h1).1
  have hoff : off < cur.size := (Array.getElem?_eq_some_iff.1 h0).1
  have hblt := blk_lt hb
  have hrl := rest_lt n (manyL l)
  have hml : manyL l < 1000000000 := by omega
  have P := Lib.hid (pending_any w b off vl l c2 hl (by show manyL l < _; omega) (by omega))
  have PP := Lib.hid (part_any · n (manyL l) hn hml)
  have HB := Lib.hid hb
  have H0 := Lib.hid h0
  have H1 := Lib.hid h1
  have H2 := Lib.hid h2
  have HS := Lib.hid hs
  have HL := Lib.hid hl
  have HSL := Lib.hid hsl
  have HOK := Lib.hid hok
  clear hb h0 h1 h2 hs hl hsl hok hsz c2
  have hP : ∀ w', Below w.heap.size w w' → Calls Try.prog 55 #[.pointer (some ⟨b, off, none⟩), .int .i64 (rest n (manyL l) : Int)] w' fun e w2 => e = .returned (.tuple #[]) ∧ ∃ vs', OwnB w2 0 5 vs' (kept l (rest n (manyL l)) safe) ∧
      w2.heap[b]? = some (.cells ((cur.setIfInBounds off vs').setIfInBounds (off + 2) (.slice none 0 0)) t (0, 0)) ∧
      Kept (fun k => k < w.heap.size ∧ k ≠ b ∧ vs.ownBlock ≠ some k) w w2 ∧ (∀ k, vs'.ownBlock = some k → vs.ownBlock = some k ∨ (w.heap.size ≤ k ∧ k < w2.heap.size)) := by
    intro w' hB
    have hk : Kept (fun k => k < w.heap.size) w w' := Kept.of hB fun _ h => h
    refine (fsettle_any w' b off (rest n (manyL l)) cur t vs vl safe l ((hB.block b hblt).trans HB.out) H0.out H2.out (own_kept HS.out hk fun k e => own_lt HS.out k e) (own_kept HL.out hk fun k e => own_lt HL.out k e) hbs hbl HSL.out HOK.out (by have := hm.out; omega) hln (by omega)).mono ?_
    rintro e w2 ⟨rfl, vs', r1, r2, r3, r4⟩
    refine ⟨rfl, vs', r1, r2, (Kept.of hB fun k hk => hk.1).trans (r3.mono fun k hk => ⟨by have := hB.size; omega, hk.2⟩), fun k hk => ?_⟩
    rcases r4 k hk with h | h
    · exact .inl h
    · exact .inr ⟨by have := hB.size; omega, h.2⟩
  have HP := Lib.hid hP
  clear hP
  go_enter Try.func58, Try.ntmps58
  go_wp2_with (first
    | (go_at_call 43; refine P.out.mono ?_; rintro e w1 ⟨rfl, hB1⟩)
    | (go_at_call 56; refine (PP.out _).mono ?_; rintro e w2 ⟨rfl, rfl⟩)
    | (go_at_call 55; refine (HP.out _ hB1).mono ?_; rintro e w3 ⟨rfl, vs', ho3, hb3, hk3, hl3⟩; have c3 : w3.cell? ⟨b, off, none⟩ = some vs' := (blk_cell hb3).trans (by rw [Array.getElem?_setIfInBounds_ne (by omega)]; simp [hoff]); have HB3 := Lib.hid hb3; have HO3 := Lib.hid ho3; have HK3 := Lib.hid hk3; have HL3 := Lib.hid hl3; clear hb3 ho3 hk3 hl3)
    | (go_at_call 23; refine (clone_bytes _ _ _ _ HO3.out.read (bv_oneCell _) hkl).mono ?_; rintro e w4 ⟨vn', rfl, ho4, hb4, hl4⟩; obtain ⟨a4, cap4, hv4, _, _⟩ := RdB.form (rd_of_own ho4); subst hv4; have hb5 := (hb4.block b (blk_lt HB3.out)).trans HB3.out; have c4 : w4.cell? ⟨b, off + 1, none⟩ = some vn := (blk_cell hb5).trans (by rw [Array.getElem?_setIfInBounds_ne (by omega), Array.getElem?_setIfInBounds_ne (by omega)]; exact H1.out); have f4 : w4.frozen? ⟨b, off + 1, none⟩ = false := blk_free hb5; have HB5 := Lib.hid hb5; have HO4 := Lib.hid ho4; have HL4 := Lib.hid hl4; clear hb5 ho4 hl4))
  go_end0
  have hs3 : b < w3.heap.size := blk_lt HB3.out
  have hvb : vs'.ownBlock ≠ some b := fun e => by
    rcases HL3.out b e with h | h
    · exact hbs h
    · omega
  have hsz4 := hb4.size
  have hsz3 := HK3.out.size
  refine ⟨rfl, vs', .slice a4 _ cap4, ?_, ?_, blk_set HB5.out _, ?_, ?_, ?_⟩
  · exact own_kept HO3.out (R := fun k => k < w3.heap.size ∧ k ≠ b) ((Kept.of hb4 fun k hk => hk.1).setCell (fun h => h.2 rfl) _) fun k hk => ⟨own_lt HO3.out k hk, fun e => hvb (by rw [← e]; exact hk)⟩
  · exact own_kept HO4.out (R := fun k => k ≠ b) ((Kept.refl _ w4).setCell (fun h => h rfl) _) fun k hk e => by have := (HL4.out k hk).1; omega
  · exact (HK3.out.trans (Kept.of hb4 fun k hk => by omega)).setCell (fun h => h.2.1 rfl) _
  · intro k hk
    rcases HL3.out k hk with h | h
    · exact .inl h
    · exact .inr (by simp [World.setCell]; omega)
  · intro k hk
    have h4 := HL4.out k hk
    refine ⟨by omega, by simp [World.setCell]; omega, fun e => ?_⟩
    have := own_lt HO3.out k e
    omega
end Go.Proofs.Ytfeogoihkpclcaa

/-
  How many bytes all files have together (what 'used' of a disk tells): a range over the map of names, in whatever order.
-/
namespace Go.Proofs.Ytfeogoihkpclcaa
open Go.RowKit

/-- The sum over those that are no longer to come. -/
def doneSum (L : Nat → Nat) (l : DB) (left : Lit → Bool) : Nat := (l.map fun x => if left (.string x.1) then 0 else L x.2).sum

theorem doneSum_start (L : Nat → Nat) (l : DB) : doneSum L l (Maps.has (mapD l)) = 0 := by
  unfold doneSum
  refine List.sum_eq_zero_iff_forall_eq_nat.2 fun n hn => ?_
  obtain ⟨x, hx, rfl⟩ := List.mem_map.1 hn
  rw [mapD_has]
  have : (dfind l x.1).isSome = true := by
    unfold dfind
    rw [Option.isSome_map, List.isSome_find?]
    exact List.any_eq_true.2 ⟨x, hx, by simp⟩
  rw [this]
  rfl

theorem doneSum_end (L : Nat → Nat) (l : DB) {left : Lit → Bool} (h : ∀ k, left k = false) : doneSum L l left = (l.map fun x => L x.2).sum := by
  unfold doneSum
  congr 1
  exact List.map_congr_left fun x _ => by rw [h]; rfl

theorem srt_ne {x : List UInt8 × Nat} {r : DB} (h : Srt (x :: r)) : ∀ y ∈ r, y.1 ≠ x.1 := by
  intro y hy e
  have := (List.pairwise_cons.1 h).1 y hy
  rw [e, bytesBefore_cmpL] at this
  rw [(cmpL_zero x.1 x.1).2 rfl] at this
  simp at this

theorem doneSum_step (L : Nat → Nat) : ∀ (l : DB) (left : Lit → Bool) (n : List UInt8) (id : Nat), Srt l → dfind l n = some id → left (.string n) = true → doneSum L l (fun z => left z && !z.sameKey (.string n)) = doneSum L l left + L id
  | [], _, _, _, _, h, _ => by cases h
  | x :: r, left, n, id, hs, h, hl => by
    have hr : Srt r := (List.pairwise_cons.1 hs).2
    by_cases e : x.1 = n
    · have hid : x.2 = id := by
        unfold dfind at h
        rw [List.find?_cons_of_pos (by simpa using e)] at h
        simpa using h
      have hrest : doneSum L r (fun z => left z && !z.sameKey (.string n)) = doneSum L r left := by
        unfold doneSum
        congr 1
        refine List.map_congr_left fun y hy => ?_
        have hy' := srt_ne hs y hy
        rw [e] at hy'
        have : (Lit.string y.1).sameKey (.string n) = false := by rw [sameKey_str]; simpa using hy'
        simp only [this, Bool.not_false, Bool.and_true]
      have h1 : (Lit.string x.1).sameKey (.string n) = true := by rw [sameKey_str]; simpa using e
      have e2 : ∀ lf : Lit → Bool, doneSum L (x :: r) lf = (if lf (.string x.1) then 0 else L x.2) + doneSum L r lf := fun lf => by simp [doneSum]
      rw [e2, e2, hrest, h1, e, hl, ← hid]
      simp
      omega
    · have hf : dfind r n = some id := by
        unfold dfind at h ⊢
        rw [List.find?_cons_of_neg (by simpa using e)] at h
        exact h
      have ih := doneSum_step L r left n id hr hf hl
      have h1 : (Lit.string x.1).sameKey (.string n) = false := by rw [sameKey_str]; simpa using e
      have e2 : ∀ lf : Lit → Bool, doneSum L (x :: r) lf = (if lf (.string x.1) then 0 else L x.2) + doneSum L r lf := fun lf => by simp [doneSum]
      rw [e2, e2, ih, h1]
      simp
      omega

theorem doneSum_le (L : Nat → Nat) (l : DB) (left : Lit → Bool) : doneSum L l left ≤ (l.map fun x => L x.2).sum := by
  unfold doneSum
  induction l with
  | nil => simp
  | cons x r ih =>
    simp only [List.map_cons, List.sum_cons]
    split <;> omega

theorem dfind_mem {l : DB} {n : List UInt8} {id : Nat} (h : dfind l n = some id) : ∃ x ∈ l, x.1 = n ∧ x.2 = id := by
  unfold dfind at h
  cases hx : l.find? fun x => x.1 == n with
  | none => rw [hx] at h; cases h
  | some x =>
    rw [hx] at h
    cases h
    exact ⟨x, List.mem_of_find?_eq_some hx, by simpa using List.find?_some hx, rfl⟩

set_option maxRecDepth 100000 in
set_option maxHeartbeats 2000000 in
theorem used_any (w : World) (p : Nat) (nv : Value) (l : DB) (L : Nat → Nat) (fb n cap : Nat) (hc : w.cell? ⟨p, 6, none⟩ = some nv) (hn : Nm w nv l) (hfv : l = [] ∨ w.cell? ⟨p, 5, none⟩ = some (.slice (some ⟨fb, 0, none⟩) n cap))
    (hid : ∀ x ∈ l, x.2 < n ∧ ∃ a c, w.cell? ⟨fb, x.2 * 3 + 1, none⟩ = some (.slice a (L x.2) c)) (hsum : (l.map fun x => L x.2).sum < 1000000000000) :
    Calls Try.prog 51 #[.pointer (some ⟨p, 0, none⟩)] w fun e w' => e = .returned (.int .i64 ((l.map fun x => L x.2).sum : Nat)) ∧ Below w.heap.size w w' := by
  rcases hn with ⟨rfl, rfl⟩ | ⟨b, rfl, hm⟩
  · have hrg := run_range_nilMap (P := Try.prog) w 48 9 3 Try.underlying48
    have hnx : ∀ ty, (Instr.next (.pointer (some ⟨w.heap.size, 0, none⟩)) false ty).run Try.prog (w.alloc (.mapIter none 0 #[] 0)) = _ := fun ty => run_next_nilMap w ty 0 0 #[]
    clear hfv hid hsum
    go_enter Try.func51, Try.ntmps51
    go_wp2
    refine wp_loop_rounds 1 ?_
    rw [rounds_succ]
    go_wp2
    go_ret
    exact ⟨rfl, (Below.refl _ _).alloc (Nat.le_refl _) _⟩
  · have hsrt := Lib.hid (srt_of_own hm)
    have hfv' : l = [] ∨ w.cell? ⟨p, 5, none⟩ = some (.slice (some ⟨fb, 0, none⟩) n cap) := hfv
    have HFV := Lib.hid hfv
    have HID := Lib.hid hid
    have HC := Lib.hid hc
    have HM := Lib.hid hm
    have hend := Lib.hid (fun left (h : ∀ k, left k = false) => doneSum_end L l (left := left) h)
    have hle := Lib.hid (doneSum_le L l)
    obtain ⟨tot, htot⟩ : ∃ t, t = (l.map fun x => L x.2).sum := ⟨_, rfl⟩
    rw [← htot] at hsum ⊢
    have HT := Lib.hid htot
    clear hfv hfv' hid htot
    go_enter Try.func51, Try.ntmps51
    go_wp2_with (at_range; refine wpList_range_own _ rfl _ 48 rfl 9 3 (Maps.string_keyed Try.underlying9) Try.underlying48 _ b l.length _ rfl HM.out ?_; intro w0 hrg0 hg0 hs0)
    go_frame
    clear hs0
    have hb0 : Below w.heap.size w w0 := (Below.refl _ _).grown hg0 (Nat.le_refl _) (fun k hk => by cases hk)
    have Hg0 := Lib.hid hg0
    clear hg0 hc hm
    go_loopw [3] (fun s wr => ∃ (left : Lit → Bool) (cnt : Nat), s = .int .i64 (doneSum L l left : Nat) ∧ wr.ranges Try.prog 9 (plainElem Try.prog 3) b w.heap.size l.length (mapD l) left cnt ∧ Below w.heap.size w wr)
      (fun _ wr => wr.rangeLeft b w.heap.size)
    case atStart => exact ⟨_, _, by rw [doneSum_start]; rfl, hrg0, hb0⟩
    case round =>
      obtain ⟨left, cnt, rfl, hrg, hB⟩ := hrel
      go_wp2_with (at_next; refine wpList_next_ranges _ rfl _ rfl 9 (Maps.string_keyed Try.underlying9) (plainElem Try.prog 3) encStr (Value.int .i64) (fun key kl hk => by obtain ⟨x, hx, _⟩ := Maps.keyOf_str Try.underlying9 hk; exact ⟨x, hx⟩) (fun v y hv => by obtain ⟨c, rfl, _⟩ := plainElem_int_inv Try.underlying3 hv; exact ⟨c, rfl⟩) b w.heap.size l.length _ _ _ rfl hrg ?_ ?_)
      · intro _ hl0
        have HX : Hid ((doneSum L l left : Nat) = tot) := by rw [HT.out]; exact hend.out left hl0
        clear hl0
        go_wp2
        go_ret
        exact ⟨congrArg (fun n : Nat => Ending.returned (.int .i64 (n : Int))) HX.out, hB⟩
      · intro x c kl yd yp w2 cnt2 hkey hlk hv hat hrg2 hlt hg2 hs2 hen
        clear hs2
        obtain ⟨x', ex, rfl, _⟩ := Maps.keyOf_str Try.underlying9 hkey
        obtain rfl : x = x' := encStr_inj ex
        clear ex
        obtain ⟨c', ec, hy, _⟩ := plainElem_int_inv Try.underlying3 hv
        cases ec
        have hf : ∃ id, dfind l x = some id ∧ c = (id : Int) := by
          have h1 := hat (.lit (.int .i64 0))
          have h2 := hat (.lit (.int .i64 1))
          rw [mapD_at] at h1 h2
          cases hd : dfind l x with
          | none =>
            rw [hd] at h1 h2
            rw [← h1] at h2
            simp at h2
          | some id =>
            rw [hd] at h1
            have hy1 := congrArg Prod.fst hy
            simp only at hy1 h1
            rw [hy1] at h1
            simp at h1
            exact ⟨id, rfl, h1.symm⟩
        obtain ⟨id, hd, rfl⟩ := hf
        clear hat hv hy hkey
        obtain ⟨xx, hxm, _, hx2⟩ := dfind_mem hd
        obtain ⟨hidn, a, cc, hcell⟩ := HID.out xx hxm
        rw [hx2] at hidn hcell
        have hfc : w.cell? ⟨p, 5, none⟩ = some (.slice (some ⟨fb, 0, none⟩) n cap) := by
          rcases HFV.out with h | h
          · subst h; cases hxm
          · exact h
        have hBx : Below w.heap.size w w2 := hB.grown hg2 (Nat.le_of_lt hrg.lt) (fun k hk => by cases hk; exact Nat.le_refl _)
        have hpl := World.block_lt_of_cell? w _ hfc
        have hfl := World.block_lt_of_cell? w _ hcell
        have c5 : w2.cell? ⟨p, 5, none⟩ = some (.slice (some ⟨fb, 0, none⟩) n cap) := (hBx.cell (p := ⟨p, 5, none⟩) hpl).trans hfc
        have cv : w2.cell? ⟨fb, id * 3 + 1, none⟩ = some (.slice a (L id) cc) := (hBx.cell (p := ⟨fb, id * 3 + 1, none⟩) hfl).trans hcell
        have hst := doneSum_step L l left x id hsrt.out hd hlk
        have hle2 := hle.out (fun z => left z && !z.sameKey (.string x))
        have HS := Lib.hid hst
        rw [hst, ← HT.out] at hle2
        have HD := Lib.hid hd
        have HLK := Lib.hid hlk
        have hid0 : (0 : Int) ≤ (id : Int) := by omega
        have hid1 : (id : Int) < (n : Int) := by omega
        have HHL := Lib.hid hlt
        have HG2 := Lib.hid hg2
        clear hst hd hlk hfc hcell hlt hg2
        generalize hds : doneSum L l left = ds at *
        have HDS := Lib.hid hds
        clear hds
        go_wp2
        go_roundw
        case rel => exact ⟨_, cnt2, by rw [HS.out]; go_num, hrg2, hBx⟩
        case measure => rw [hrg2.left_eq, hrg.left_eq]; exact HHL.out
end Go.Proofs.Ytfeogoihkpclcaa
