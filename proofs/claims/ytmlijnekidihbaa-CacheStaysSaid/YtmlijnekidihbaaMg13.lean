import Derived.Test.YtmlijnekidihbaaMg05
import Derived.Test.YtmlijnekidihbaaMoves
import Derived.OpenShut

/-
  A cache of the statement's own with two rows beside it: what was told, and whether.
-/
namespace Go.Proofs.Ytmlijnekidihbaa
open Go.RowKit

abbrev TabC := List (CKey × List UInt8)
abbrev CaT := (CKey → List UInt8 → Prop) → Nat → Bool → Nat → (Nat → Prop) → World → Nat → Nat → TabC → Prop
def gotL (T0 : TabC) (i : Nat) : Option (List UInt8) := lookC T0 (nameB (i / 4), ((i % 4 : Nat) : Int))
def hadL (T0 : TabC) (m : Nat) : List Value := (List.range m).map fun i => Value.string (strB (tellC (gotL T0 i)))
def wasL (T0 : TabC) (m : Nat) : List Value := (List.range m).map fun i => Value.bool (gotL T0 i).isSome

theorem gotL_at (T0 : TabC) {a c : Nat} (hc : c < 4) : gotL T0 (4 * a + c) = lookC T0 (nameB a, (c : Int)) := by
  unfold gotL
  rw [show (4 * a + c) / 4 = a by omega, show (4 * a + c) % 4 = c by omega]
theorem hadL_succ (T0 : TabC) (m : Nat) : hadL T0 (m + 1) = hadL T0 m ++ [Value.string (strB (tellC (gotL T0 m)))] := by unfold hadL; rw [List.range_succ, List.map_append]; rfl
theorem wasL_succ (T0 : TabC) (m : Nat) : wasL T0 (m + 1) = wasL T0 m ++ [Value.bool (gotL T0 m).isSome] := by unfold wasL; rw [List.range_succ, List.map_append]; rfl

structure StR (Ca : CaT) (W w : World) (k q p : Nat) (T0 : TabC) (vh vw : Value) (mh mw : Nat) : Prop where
  ex : ∃ (G : Nat → Prop) (T : TabC), Ca dataD 8 true k G w q p T ∧ (∀ j, G j → W.heap.size ≤ j) ∧ (T.length = T0.length ∧ ∀ y, lookC T y = lookC T0 y) ∧ (∀ j, vh.ownBlock = some j → W.heap.size ≤ j ∧ ¬ G j) ∧ (∀ j, vw.ownBlock = some j → W.heap.size ≤ j ∧ ¬ G j)
  below : Below W.heap.size W w
  rh : w.ownsRow 0 9 1 vh mh (hadL T0 mh)
  rb : w.ownsRow 0 4 1 vw mw (wasL T0 mw)
  ne : ∀ j, vh.ownBlock = some j → vw.ownBlock ≠ some j

section
variable {Dk : (CKey → List UInt8 → Prop) → Bool → Nat → (Nat → Prop) → World → Nat → Prop} {Ca : CaT} {W w w' w1 : World} {k q p mh mw m : Nat} {T0 : TabC} {vh vw vh' vw' : Value}
theorem stay_start (h : CaW Ca dataD 8 true k W w q p T0) : StR Ca W w k q p T0 (.slice none 0 0) (.slice none 0 0) 0 0 := by
  obtain ⟨G, h1, h2, h3⟩ := h
  exact ⟨⟨G, T0, h1, h2, ⟨rfl, fun _ => rfl⟩, fun j hj => (by cases hj), fun j hj => (by cases hj)⟩, h3, World.ownsRow_nil _ _ _ _, World.ownsRow_nil _ _ _ _, fun j hj => by cases hj⟩
theorem StR.then_ (hi : CacheC Dk Ca) (h : StR Ca W w k q p T0 vh vw mh mw) (hb : Below w.heap.size w w') : StR Ca W w' k q p T0 vh vw mh mw := by
  obtain ⟨⟨G, T, h1, h2, h3, h4, h5⟩, h6, h7, h8, h9⟩ := h
  exact ⟨⟨G, T, hi.kept (R := fun j => j < w.heap.size) h1 (Kept.of hb fun _ h => h) (hi.lt h1), h2, h3, h4, h5⟩, belowT h6 hb, own_kept h7 (R := fun j => j < w.heap.size) (Kept.of hb fun _ h => h) (own_lt h7), own_kept h8 (R := fun j => j < w.heap.size) (Kept.of hb fun _ h => h) (own_lt h8), h9⟩
theorem stay_touch {G G' : Nat → Prop} {k' q' : Nat} {T' : TabC} (h : StR Ca W w k q p T0 vh vw mh mw) (h2 : ∀ j, G j → W.heap.size ≤ j) (h4 : ∀ j, vh.ownBlock = some j → W.heap.size ≤ j ∧ ¬ G j) (h5 : ∀ j, vw.ownBlock = some j → W.heap.size ≤ j ∧ ¬ G j)
    (hc : Ca dataD 8 true k' G' w' q' p T') (hT : T'.length = T0.length ∧ ∀ y, lookC T' y = lookC T0 y) (ht : Touch G w w') (hg : Grows G G' w w') : StR Ca W w' k' q' p T0 vh vw mh mw := by
  have hsz := h.below.size
  have hn : ∀ {v : Value} {n e : Nat} {cs : List Value}, w.ownsRow 0 e 1 v n cs → (∀ j, v.ownBlock = some j → W.heap.size ≤ j ∧ ¬ G j) → ∀ j, v.ownBlock = some j → W.heap.size ≤ j ∧ ¬ G' j := fun ho hv j hj => ⟨(hv j hj).1, fun hg' => by
    rcases hg j hg' with h | h
    · exact (hv j hj).2 h
    · have := own_lt ho j hj; omega⟩
  refine ⟨⟨G', T', hc, fun j hj => ?_, hT, hn h.rh h4, hn h.rb h5⟩, h.below.trans (Kept.below ht fun j hj => ⟨Nat.lt_of_lt_of_le hj hsz, fun hf => by have := h2 j hf; omega⟩), own_kept h.rh ht fun j hj => ⟨own_lt h.rh j hj, (h4 j hj).2⟩, own_kept h.rb ht fun j hj => ⟨own_lt h.rb j hj, (h5 j hj).2⟩, h.ne⟩
  rcases hg j hj with h3 | h3
  · exact h2 j h3
  · omega
theorem stay_get (hi : CacheC Dk Ca) (h : StR Ca W w k q p T0 vh vw mh mw) (hk : k ≤ 150) {a c : Nat} (ha : a < 6) (hc : c < 4) :
    Calls Try.prog 11 #[.pointer (some ⟨q, 0, none⟩), .string (nameB a), .int .i64 (c : Int)] w fun e w' => ∃ va m vc, e = .returned (.tuple #[.slice va m vc, .bool (gotL T0 (4 * a + c)).isSome]) ∧ RdB w' (.slice va m vc) (tellC (gotL T0 (4 * a + c))) ∧ StR Ca W w' (k + 1) q p T0 vh vw mh mw := by
  have h0 := h
  obtain ⟨⟨G, T, h1, h2, h3, h4, h5⟩, _⟩ := h
  refine (hi.get h1 hk (nameB a) c (by rw [nameB_size ha]; omega) (nat_wf (by omega))).mono ?_
  rintro e w' ⟨x, rfl, hr, T', G', hc', hl, _, _, ht, hg⟩
  obtain ⟨va, vc, rfl, _, _⟩ := hr.form
  obtain ⟨l1, l2⟩ := hl rfl
  rw [gotL_at T0 hc, ← h3.2]
  exact ⟨va, _, vc, rfl, hr, stay_touch h0 h2 h4 h5 hc' ⟨l1.trans h3.1, fun y => (l2 y).trans (h3.2 y)⟩ ht hg⟩
theorem stay_again (hi : CacheC Dk Ca) (h : StR Ca W w k q p T0 vh vw mh mw) (hk : k ≤ 150) :
    Calls Try.prog 9 #[.pointer (some ⟨p, 0, none⟩), .int .i64 8] w fun e w' => ∃ q', e = .returned (.pointer (some ⟨q', 0, none⟩)) ∧ StR Ca W w' (k + 1) q' p T0 vh vw mh mw := by
  have h0 := h
  obtain ⟨⟨G, T, h1, h2, h3, h4, h5⟩, _⟩ := h
  refine (hi.again h1 hk 8 (by decide) (by decide)).mono ?_
  rintro e w' ⟨q', T', G', rfl, hc', l1, l2, ht, hg⟩
  exact ⟨q', rfl, stay_touch h0 h2 h4 h5 hc' ⟨l1.trans h3.1, fun y => (l2 y).trans (h3.2 y)⟩ ht hg⟩
theorem stay_len (hi : CacheC Dk Ca) (h : StR Ca W w k q p T0 vh vw mh mw) :
    Calls Try.prog 15 #[.pointer (some ⟨q, 0, none⟩)] w fun e w' => e = .returned (.int .i64 (T0.length : Int)) ∧ StR Ca W w' k q p T0 vh vw mh mw := by
  have h0 := h
  obtain ⟨⟨G, T, h1, h2, h3, h4, h5⟩, _⟩ := h
  refine (hi.len h1).mono ?_
  rintro e w' ⟨n, rfl, _, hn, hb⟩
  exact ⟨by rw [hn rfl, h3.1], h0.then_ hi hb⟩
theorem stay_had (hi : CacheC Dk Ca) (h : StR Ca W w k q p T0 vh vw m mw) (hb : Below w.heap.size w w1) (ho : w'.ownsRow 0 9 1 vh' (m + 1) (hadL T0 m ++ [Value.string (strB (tellC (gotL T0 m)))])) (hm : Moves w1 w' vh vh') : StR Ca W w' k q p T0 vh' vw (m + 1) mw := by
  obtain ⟨⟨G, T, h1, h2, h3, h4, h5⟩, h6, h7, h8, h9⟩ := h.then_ hi hb
  have hsz := h6.size
  have hlt := hi.lt h1
  have hat : ∀ j, vh'.ownBlock = some j → W.heap.size ≤ j ∧ ¬ G j := fun j hj => by
    rcases hm.at_ j hj with e | ⟨e, _⟩
    · exact h4 j e
    · exact ⟨by omega, fun hg => by have := hlt j hg; omega⟩
  refine ⟨⟨G, T, hi.kept (R := fun j => j < w1.heap.size ∧ vh.ownBlock ≠ some j) h1 (hm.kept fun j hj => hj) fun j hj => ⟨hlt j hj, fun e => (h4 j e).2 hj⟩, h2, h3, hat, h5⟩, h6.trans (Kept.below (hm.kept (R := fun j => j < w1.heap.size ∧ vh.ownBlock ≠ some j) fun j hj => hj) fun j hj => ⟨by omega, fun e => by have := (h4 j e).1; omega⟩), by rw [hadL_succ]; exact ho, own_kept h8 (hm.kept (R := fun j => j < w1.heap.size ∧ vh.ownBlock ≠ some j) fun j hj => hj) fun j hj => ⟨own_lt h8 j hj, fun e => h9 j e hj⟩, fun j hj => ?_⟩
  rcases hm.at_ j hj with e | ⟨e, _⟩
  · exact h9 j e
  · intro hv
    have := own_lt h8 j hv
    omega
theorem stay_was (hi : CacheC Dk Ca) (h : StR Ca W w k q p T0 vh vw mh m) (hb : Below w.heap.size w w1) (ho : w'.ownsRow 0 4 1 vw' (m + 1) (wasL T0 m ++ [Value.bool (gotL T0 m).isSome])) (hm : Moves w1 w' vw vw') : StR Ca W w' k q p T0 vh vw' mh (m + 1) := by
  obtain ⟨⟨G, T, h1, h2, h3, h4, h5⟩, h6, h7, h8, h9⟩ := h.then_ hi hb
  have hsz := h6.size
  have hlt := hi.lt h1
  have hat : ∀ j, vw'.ownBlock = some j → W.heap.size ≤ j ∧ ¬ G j := fun j hj => by
    rcases hm.at_ j hj with e | ⟨e, _⟩
    · exact h5 j e
    · exact ⟨by omega, fun hg => by have := hlt j hg; omega⟩
  refine ⟨⟨G, T, hi.kept (R := fun j => j < w1.heap.size ∧ vw.ownBlock ≠ some j) h1 (hm.kept fun j hj => hj) fun j hj => ⟨hlt j hj, fun e => (h5 j e).2 hj⟩, h2, h3, h4, hat⟩, h6.trans (Kept.below (hm.kept (R := fun j => j < w1.heap.size ∧ vw.ownBlock ≠ some j) fun j hj => hj) fun j hj => ⟨by omega, fun e => by have := (h5 j e).1; omega⟩), own_kept h7 (hm.kept (R := fun j => j < w1.heap.size ∧ vw.ownBlock ≠ some j) fun j hj => hj) fun j hj => ⟨own_lt h7 j hj, fun e => h9 j hj e⟩, by rw [wasL_succ]; exact ho, fun j hj hv => ?_⟩
  rcases hm.at_ j hv with e | ⟨e, _⟩
  · exact h9 j hj e
  · have := own_lt h7 j hj
    omega
/-- A row that is not empty: where it lies. -/
theorem row_form {e : Nat} {v : Value} {n : Nat} {cs : List Value} (h : w.ownsRow 0 e 1 v n cs) (hn : 0 < n) : ∃ b c, v = .slice (some ⟨b, 0, none⟩) n c ∧ n ≤ c ∧ ∀ i u, cs[i]? = some u → w.cell? ⟨b, i, none⟩ = some u := by
  have h0 := h
  rcases h.2 with ⟨_, h1⟩ | ⟨g, cap, cur, rfl, _, hg, hnc, _, _, _⟩
  · omega
  · refine ⟨g, cap, rfl, hnc, fun i u hu => ?_⟩
    have := World.ownsRow.cells h0 (g := g) rfl i u hu
    have hadd : (⟨g, 0, none⟩ : Addr).add i = ⟨g, i, none⟩ := by unfold Addr.add; split <;> simp_all
    rwa [hadd] at this
theorem row_cell {e b n c : Nat} {cs : List Value} (h : w.ownsRow 0 e 1 (.slice (some ⟨b, 0, none⟩) n c) n cs) {i : Nat} {u : Value} (hu : cs[i]? = some u) : w.cell? ⟨b, i, none⟩ = some u := by
  have := World.ownsRow.cells h (g := b) rfl i u hu
  have hadd : (⟨b, 0, none⟩ : Addr).add i = ⟨b, i, none⟩ := by unfold Addr.add; split <;> simp_all
  rwa [hadd] at this
theorem had_at {i : Nat} (h : i < m) : (hadL T0 m)[i]? = some (Value.string (strB (tellC (gotL T0 i)))) := by unfold hadL; rw [List.getElem?_map, List.getElem?_range h]; rfl
theorem was_at {i : Nat} (h : i < m) : (wasL T0 m)[i]? = some (Value.bool (gotL T0 i).isSome) := by unfold wasL; rw [List.getElem?_map, List.getElem?_range h]; rfl
theorem rd_one {e : Nat} (w : World) (u : Value) : Rd (w.alloc (.cells #[u] e)) 1 (.slice (some ⟨w.heap.size, 0, none⟩) 1 1) 1 [u] := by
  refine ⟨_, _, rfl, Nat.le_refl _, by unfold maxLen; simp, rfl, .inr ⟨w.heap.size, 0, rfl, by simp, fun j x hj => ?_⟩⟩
  match j, hj with
  | 0, hj => simp at hj; subst hj; rw [blk_cell (heap_alloc_new w _)]; rfl
  | j + 1, hj => simp at hj
end
end Go.Proofs.Ytmlijnekidihbaa

/-
  The walk of CacheStays.
-/
namespace Go.Proofs.Ytmlijnekidihbaa
open Go.RowKit

theorem info_strS : (Try.prog.info? 9).map (fun i => (i.zero, i.size, i.bytes)) = some (some (.string ⟨#[]⟩), 1, 16) := by kernel_rfl
theorem info_boolS : (Try.prog.info? 4).map (fun i => (i.zero, i.size, i.bytes)) = some (some (.bool false), 1, 1) := by kernel_rfl

set_option maxRecDepth 100000 in
set_option maxHeartbeats 4000000 in
theorem cacheStays_walkC {Dk : (CKey → List UInt8 → Prop) → Bool → Nat → (Nat → Prop) → World → Nat → Prop} {Ca : (CKey → List UInt8 → Prop) → Nat → Bool → Nat → (Nat → Prop) → World → Nat → Nat → List (CKey × List UInt8) → Prop} (hi : CacheC Dk Ca) (v1 : Value) (ns : List UInt8) (W : World) (w1 : RdB W v1 ns) :
    Calls Try.prog 5 #[v1] W fun r w' => r = .returned (.bool true) ∧ Below W.heap.size W w' := by
  have HAW := Lib.hid (awake16_any hi)
  have HI := Lib.hid hi
  obtain ⟨va, vc, rfl, hc1, hc2⟩ := w1.form
  unfold maxLen at hc2
  have HV0 := Lib.hid w1
  clear w1 hi
  by_cases c1 : 40 < ns.length
  · have d1 : 40 < (ns.length : Int) := by omega
    go_enter Try.func5, Try.ntmps5
    go_wp2_with (go_at_call 8; (refine (HAW.out _).mono ?_); rintro e w9 ⟨rfl, hb9⟩; have HB9 := Lib.hid hb9; clear hb9)
    go_ret
    exact ⟨rfl, HB9.out⟩
  · have d1 : ¬ 40 < (ns.length : Int) := by omega
    have HN := Lib.hid (caw_new HI.out dataD (Below.refl W.heap.size W) 1048576 0 0 false (.slice none 0 0) (by omega) (by omega) (by omega) true (by decide))
    have HLN := Lib.hid (lim_of (show 8 ≤ 64 by omega))
    go_enter Try.func5, Try.ntmps5
    go_wp2_with (first | (go_at_call 10; (refine HN.out.mono ?_); rintro e w1 ⟨p, rfl, hd⟩; have HD := Lib.hid (caw_fresh HI.out hd 8 (by decide)); clear hd) | (go_at_call 9; (refine HD.out.mono ?_); rintro e w2 ⟨q, rfl, hc⟩; have HC := Lib.hid (show CaW Ca dataD 8 true 1 W w2 q p [] from hc); clear hc))
    go_loopw [5] (fun x9 wr => ∃ (i k : Nat) (T : List (CKey × List UInt8)), i ≤ ns.length + 1 ∧ k ≤ 1 + i ∧ x9 = .int .i64 (i : Int) ∧ Hid (CaW Ca dataD 8 true k W wr q p T)) (fun x9 _ => ns.length + 1 - (intOf x9).toNat)
    case atStart => exact ⟨0, 1, [], Nat.zero_le _, Nat.le_refl _, rfl, HC⟩
    case round =>
      clear HC HN
      obtain ⟨i, k, T, hin, hki, rfl, HCW⟩ := hrel
      by_cases hlt : i + 1 < ns.length
      · obtain ⟨bb, off, cap', hvv, _, _, hbw, hcell⟩ := HV0.out.cells (by intro h; rw [h] at hlt; simp at hlt)
        cases hvv
        have z0 : wr.drew.cell? ⟨bb, off + i, none⟩ = _ := (HCW.out.below.cell (p := ⟨bb, off + i, none⟩) hbw).trans (hcell i (by omega))
        obtain ⟨i1, hi1⟩ : ∃ i1, i + 1 = i1 := ⟨_, rfl⟩
        rw [hi1] at hlt
        have z1 : wr.drew.cell? ⟨bb, off + i1, none⟩ = _ := (HCW.out.below.cell (p := ⟨bb, off + i1, none⟩) hbw).trans (hcell i1 hlt)
        have hbl : bb < wr.drew.heap.size := Nat.lt_of_lt_of_le hbw HCW.out.below.size
        have hx := byte_le (ns.getD i 0)
        have hy := byte_le (ns.getD i1 0)
        unfold bv at z0 z1
        generalize (ns.getD i 0).toNat = x at *
        generalize (ns.getD i1 0).toNat = y at *
        obtain ⟨a, hxa⟩ : ∃ a, x % 6 = a := ⟨_, rfl⟩
        obtain ⟨c, hyc⟩ : ∃ c, y % 4 = c := ⟨_, rfl⟩
        have ha6 : a < 6 := by omega
        have hc4 : c < 4 := by omega
        have m1 : (x : Int).tmod 6 = (a : Int) := by rw [Int.tmod_eq_emod_of_nonneg (by omega)]; omega
        have m2 : (x : Int) % 6 = (a : Int) := by omega
        have m3 : (y : Int).tmod 4 = (c : Int) := by rw [Int.tmod_eq_emod_of_nonneg (by omega)]; omega
        have m4 : (y : Int) % 4 = (c : Int) := by omega
        have w1 : IntKind.u8.wrap (a : Int) = (a : Int) := by rw [IntKind.wrap_u8]; omega
        have w2 : IntKind.i64.wrap (c : Int) = (c : Int) := IntWalk.i64_in _ (by omega)
        have w3 : IntKind.i64.wrap (i1 : Int) = (i1 : Int) := IntWalk.i64_in _ (by omega)
        have w4 : IntKind.i64.wrap (y : Int) = (y : Int) := IntWalk.i64_in _ (by omega)
        have a6 : a % 6 = a := by omega
        have hi1z : (i : Int) + 1 = (i1 : Int) := by omega
        have hlz : (i1 : Int) < (ns.length : Int) := by omega
        have HI1 := Lib.hid hi1
        clear hi1
        have hlz2 : (i : Int) < (ns.length : Int) := by omega
        have HNM := Lib.hid (fun w => name_any a (by omega) w)
        rw [a6] at HNM
        have HDT := Lib.hid (data_any a c (by omega) (by omega))
        have hnx := fun w => name_any x (by omega) w
        rw [hxa] at hnx
        clear HNM
        have HNM := Lib.hid hnx
        clear hnx
        go_wp2
        have hcd := HCW.out.then_ HI.out ((Below.refl _ _).drew)
        have HCD := Lib.hid hcd
        clear hcd HCW
        refine wp_region_two (fun wz => Below wr.drew.heap.size wr.drew wz) (fun _ => True) [(0, 0), (0, 1), (0, 2), (0, 3), (0, 4), (0, 6), (0, 7), (0, 8), (0, 9), (0, 10), (0, 11), (0, 12), (0, 13), (0, 14), (0, 15), (0, 16), (0, 17), (0, 18), (0, 19), (0, 20), (0, 21), (0, 22), (0, 23), (0, 24), (2, 5), (2, 25), (3, 26)] [26] (by kernel_rfl) (by kernel_rfl) (by kernel_rfl) (by kernel_rfl) (by kernel_rfl) (Below.refl _ _) trivial ?_
        simp only [planT, List.drop_succ_cons, List.drop_zero]
        refine PlanT.take0 (v := ?vA0) (by kernel_rfl) ?yA0 ?rA0
        case yA0 => (intro wz hz; go_simp; try with_reducible rfl)
        (try simp only [Act.put, List.setIfInBounds_toArray, List.set_cons_zero, List.set_cons_succ])
        refine PlanT.take0 (v := ?vA1) (by kernel_rfl) ?yA1 ?rA1
        case yA1 => (intro wz hz; go_simp; try with_reducible rfl)
        (try simp only [Act.put, List.setIfInBounds_toArray, List.set_cons_zero, List.set_cons_succ])
        refine PlanT.take0 (v := ?vA2) (by kernel_rfl) ?yA2 ?rA2
        case yA2 => (intro wz hz; go_simp; try with_reducible rfl)
        (try simp only [Act.put, List.setIfInBounds_toArray, List.set_cons_zero, List.set_cons_succ])
        refine PlanT.take0 (v := ?vA3) (by kernel_rfl) ?yA3 ?rA3
        case yA3 => (intro wz hz; go_simp; try with_reducible rfl)
        (try simp only [Act.put, List.setIfInBounds_toArray, List.set_cons_zero, List.set_cons_succ])
        refine PlanT.take0 (v := ?vA4) (by kernel_rfl) ?yA4 ?rA4
        case yA4 => (intro wz hz; have c0 := (hz.cell (p := ⟨bb, off + i, none⟩) hbl).trans z0; go_simp; try with_reducible rfl)
        (try simp only [Act.put, List.setIfInBounds_toArray, List.set_cons_zero, List.set_cons_succ])
        refine PlanT.take0 (v := ?vA6) (by kernel_rfl) ?yA6 ?rA6
        case yA6 => (intro wz hz; go_simp; try with_reducible rfl)
        (try simp only [Act.put, List.setIfInBounds_toArray, List.set_cons_zero, List.set_cons_succ])
        refine PlanT.take0 (v := ?vA7) (by kernel_rfl) ?yA7 ?rA7
        case yA7 => (intro wz hz; go_simp; try with_reducible rfl)
        (try simp only [Act.put, List.setIfInBounds_toArray, List.set_cons_zero, List.set_cons_succ])
        refine PlanT.take0 (v := ?vA8) (by kernel_rfl) ?yA8 ?rA8
        case yA8 => (intro wz hz; go_simp; try with_reducible rfl)
        (try simp only [Act.put, List.setIfInBounds_toArray, List.set_cons_zero, List.set_cons_succ])
        refine PlanT.take0 (v := ?vA9) (by kernel_rfl) ?yA9 ?rA9
        case yA9 => (intro wz hz; go_simp; try with_reducible rfl)
        (try simp only [Act.put, List.setIfInBounds_toArray, List.set_cons_zero, List.set_cons_succ])
        refine PlanT.take0 (v := ?vA10) (by kernel_rfl) ?yA10 ?rA10
        case yA10 => (intro wz hz; have c0 := (hz.cell (p := ⟨bb, off + i1, none⟩) hbl).trans z1; go_simp; try with_reducible rfl)
        (try simp only [Act.put, List.setIfInBounds_toArray, List.set_cons_zero, List.set_cons_succ])
        refine PlanT.take0 (v := ?vA11) (by kernel_rfl) ?yA11 ?rA11
        case yA11 => (intro wz hz; go_simp; try with_reducible rfl)
        (try simp only [Act.put, List.setIfInBounds_toArray, List.set_cons_zero, List.set_cons_succ])
        refine PlanT.take0 (v := ?vA12) (by kernel_rfl) ?yA12 ?rA12
        case yA12 => (intro wz hz; go_simp; try with_reducible rfl)
        (try simp only [Act.put, List.setIfInBounds_toArray, List.set_cons_zero, List.set_cons_succ])
        refine PlanT.take0 (v := ?vA13) (by kernel_rfl) ?yA13 ?rA13
        case yA13 => (intro wz hz; go_simp; try with_reducible rfl)
        (try simp only [Act.put, List.setIfInBounds_toArray, List.set_cons_zero, List.set_cons_succ])
        refine PlanT.take0 (v := ?vA14) (by kernel_rfl) ?yA14 ?rA14
        case yA14 => (intro wz hz; go_simp; try with_reducible rfl)
        (try simp only [Act.put, List.setIfInBounds_toArray, List.set_cons_zero, List.set_cons_succ])
        refine PlanT.take0 (v := ?vA15) (by kernel_rfl) ?yA15 ?rA15
        case yA15 => (intro wz hz; go_simp; try with_reducible rfl)
        (try simp only [Act.put, List.setIfInBounds_toArray, List.set_cons_zero, List.set_cons_succ])
        refine PlanT.take0 (v := ?vA16) (by kernel_rfl) ?yA16 ?rA16
        case yA16 => (intro wz hz; have c0 := (hz.cell (p := ⟨bb, off + i, none⟩) hbl).trans z0; go_simp; try with_reducible rfl)
        (try simp only [Act.put, List.setIfInBounds_toArray, List.set_cons_zero, List.set_cons_succ])
        refine PlanT.take0 (v := ?vA17) (by kernel_rfl) ?yA17 ?rA17
        case yA17 => (intro wz hz; go_simp; try with_reducible rfl)
        (try simp only [Act.put, List.setIfInBounds_toArray, List.set_cons_zero, List.set_cons_succ])
        refine PlanT.take0 (v := ?vA18) (by kernel_rfl) ?yA18 ?rA18
        case yA18 => (intro wz hz; go_simp; try with_reducible rfl)
        (try simp only [Act.put, List.setIfInBounds_toArray, List.set_cons_zero, List.set_cons_succ])
        refine PlanT.take0 (v := ?vA19) (by kernel_rfl) ?yA19 ?rA19
        case yA19 => (intro wz hz; go_simp; try with_reducible rfl)
        (try simp only [Act.put, List.setIfInBounds_toArray, List.set_cons_zero, List.set_cons_succ])
        refine PlanT.take0 (v := ?vA20) (by kernel_rfl) ?yA20 ?rA20
        case yA20 => (intro wz hz; go_simp; try with_reducible rfl)
        (try simp only [Act.put, List.setIfInBounds_toArray, List.set_cons_zero, List.set_cons_succ])
        refine PlanT.take0 (v := ?vA21) (by kernel_rfl) ?yA21 ?rA21
        case yA21 => (intro wz hz; go_simp; try with_reducible rfl)
        (try simp only [Act.put, List.setIfInBounds_toArray, List.set_cons_zero, List.set_cons_succ])
        refine PlanT.take0 (v := ?vA22) (by kernel_rfl) ?yA22 ?rA22
        case yA22 => (intro wz hz; have c0 := (hz.cell (p := ⟨bb, off + i1, none⟩) hbl).trans z1; go_simp; try with_reducible rfl)
        (try simp only [Act.put, List.setIfInBounds_toArray, List.set_cons_zero, List.set_cons_succ])
        refine PlanT.take0 (v := ?vA23) (by kernel_rfl) ?yA23 ?rA23
        case yA23 => (intro wz hz; go_simp; try with_reducible rfl)
        (try simp only [Act.put, List.setIfInBounds_toArray, List.set_cons_zero, List.set_cons_succ])
        refine PlanT.take0 (v := ?vA24) (by kernel_rfl) ?yA24 ?rA24
        case yA24 => (intro wz hz; go_simp; try with_reducible rfl)
        (try simp only [Act.put, List.setIfInBounds_toArray, List.set_cons_zero, List.set_cons_succ])
        refine PlanT.exec2 (fun K hK => ⟨by kernel_rfl, ?_⟩)
        go_simp
        go_at_call 12
        (with_reducible refine (HNM.out _).mono ?_)
        rintro e w3 ⟨rfl, hb3⟩
        have HC3 := Lib.hid (HCD.out.then_ HI.out hb3)
        have HB3 := Lib.hid hb3
        clear hb3
        go_wp2_with fail
        refine hK.out _ _ HB3.out trivial ?_
        clear hK K
        (try simp only [Act.put, List.setIfInBounds_toArray, List.set_cons_zero, List.set_cons_succ])
        refine PlanT.exec2 (fun K hK => ⟨by kernel_rfl, ?_⟩)
        go_simp
        go_at_call 13
        (with_reducible refine (HDT.out _).mono ?_)
        rintro e w4 ⟨x4, rfl, ho4, hb4⟩
        have HP4 := Lib.hid (caw_putD HI.out HC3.out (by omega) ha6 hc4 x4 hb4 ho4)
        obtain ⟨a4, c4, rfl, _, _⟩ := (OwnB.read ho4).form
        have HB4 := Lib.hid (belowT HB3.out hb4)
        clear ho4 hb4
        go_wp2_with fail
        refine hK.out _ _ HB4.out trivial ?_
        clear hK K
        (try simp only [Act.put, List.setIfInBounds_toArray, List.set_cons_zero, List.set_cons_succ])
        refine PlanT.exec3 (fun K hK => ⟨by kernel_rfl, ?_⟩)
        go_simp
        go_at_call 14
        (with_reducible refine HP4.out.mono ?_)
        rintro e w5 ⟨rfl, T5, hc5, _⟩
        have HC5 := Lib.hid hc5
        clear hc5
        go_wp2_with fail
        refine hK.out _ _ trivial ?_
        clear hK K
        (try simp only [Act.put, List.setIfInBounds_toArray, List.set_cons_zero, List.set_cons_succ])
        refine PlanT.done (NoPanic.normal ?_)
        go_wp2
        refine ⟨⟨i + 2, k + 1, T5, by omega, by omega, by go_num, HC5⟩, by simp only [intOf]; omega⟩
      · obtain ⟨i1, hi1⟩ : ∃ i1, i + 1 = i1 := ⟨_, rfl⟩
        have w3 : IntKind.i64.wrap (i1 : Int) = (i1 : Int) := IntWalk.i64_in _ (by omega)
        have hi1z : (i : Int) + 1 = (i1 : Int) := by omega
        have hlz : ¬ (i1 : Int) < (ns.length : Int) := by omega
        have hk41 : k ≤ 42 := by omega
        have HS0 := Lib.hid (stay_start HCW.out)
        obtain ⟨tl, htl⟩ : ∃ tl, tl = T.length := ⟨_, rfl⟩
        have HLEN : Hid (∀ (w : World) (q k : Nat) (vh vw : Value) (mh mw : Nat), StR Ca W w k q p T vh vw mh mw → Calls Try.prog 15 #[.pointer (some ⟨q, 0, none⟩)] w fun e w' => e = .returned (.int .i64 (tl : Int)) ∧ StR Ca W w' k q p T vh vw mh mw) := Lib.hid fun w q k vh vw mh mw h => htl ▸ stay_len HI.out h
        clear hi1 hlt hki htl HCW
        go_wp2_with fail
        refine (HLEN.out _ _ _ _ _ _ _ HS0.out).mono ?_
        rintro e w3 ⟨rfl, hs3⟩
        have HS3 := Lib.hid hs3
        clear hs3 HS0
        go_wp2_with fail
        go_loopw [7, 8, 9] (fun vh vw x9 wr => ∃ (a k : Nat), a ≤ 6 ∧ k ≤ 42 + 4 * a ∧ x9 = .int .i64 (a : Int) ∧ Hid (StR Ca W wr k q p T vh vw (4 * a) (4 * a))) (fun _ _ x9 _ => 6 - (intOf x9).toNat)
        case atStart => exact ⟨0, k, Nat.zero_le _, by omega, rfl, HS3⟩
        case round =>
          clear HS3
          obtain ⟨a, k, ha6x, hka, rfl, HS⟩ := hrel
          by_cases ha6 : a < 6
          · have haz : (a : Int) < 6 := by omega
            have wa1 : IntKind.u8.wrap (a : Int) = (a : Int) := by rw [IntKind.wrap_u8]; omega
            have a6 : a % 6 = a := by omega
            have HNM := Lib.hid (fun w => name_any a (by omega) w)
            rw [a6] at HNM
            clear a6
            go_wp2_with fail
            go_loopw [7, 8, 10] (fun vh vw x9 wr => ∃ (c k : Nat), c ≤ 4 ∧ k ≤ 42 + 4 * a + c ∧ x9 = .int .i64 (c : Int) ∧ Hid (StR Ca W wr k q p T vh vw (4 * a + c) (4 * a + c))) (fun _ _ x9 _ => 4 - (intOf x9).toNat)
            case atStart => exact ⟨0, k, Nat.zero_le _, by omega, rfl, HS⟩
            case round =>
              clear HS
              obtain ⟨c, k, hc4x, hkc, rfl, HS⟩ := hrel
              by_cases hc4 : c < 4
              · have hcz : (c : Int) < 4 := by omega
                go_wp2_with fail
                refine (HNM.out _).mono ?_
                rintro e w6 ⟨rfl, hb6⟩
                have HS6 := Lib.hid (HS.out.then_ HI.out hb6)
                clear hb6 HS
                have hgt := stay_get HI.out HS6.out (by omega) ha6 hc4
                obtain ⟨bo, hbo⟩ : ∃ bo, bo = (gotL T (4 * a + c)).isSome := ⟨_, rfl⟩
                obtain ⟨bs, hbs⟩ : ∃ bs, bs = strB (tellC (gotL T (4 * a + c))) := ⟨_, rfl⟩
                rw [← hbo] at hgt
                have HGT := Lib.hid hgt
                have HBO := Lib.hid hbo
                have HBS := Lib.hid hbs
                clear hgt hbo hbs HS6
                go_wp2_with fail
                refine HGT.out.mono ?_
                rintro e w7 ⟨va7, m7, vc7, rfl, hr7, hs7⟩
                have hcv := str_of hr7
                rw [← HBS.out] at hcv
                have HS7 := Lib.hid hs7
                have hal : Below w7.heap.size w7 (w7.alloc (.cells #[.string bs] 9)) := (Below.refl _ _).alloc (Nat.le_refl _) _
                have HAL := Lib.hid hal
                have HO7 := Lib.hid (hs7.then_ HI.out hal).rh
                have h24 : 4 * a + c < 24 := by omega
                clear hr7 hs7 hal HGT
                go_wp2_with (first | (at_builtin; refine wpList_plain rfl fun K' hK' => ?_; refine wp_append_at (.tmp 78) (.tmp 81) 40 rfl 9 1 16 (.string ⟨#[]⟩) Try.underlying40 info_strS rfl (by decide) _ _ _ 1 _ _ rfl rfl HO7.out (rd_one w7 (.string bs)) (fun u hu => by simp at hu; subst hu; rfl) (by omega) (by unfold maxLen; omega) (fun v8 w8 hown hmv => hK' _ _ ?_); rw [HBS.out] at hown; have HS8 := Lib.hid (stay_had HI.out HS7.out HAL.out hown hmv); have HAL2 : Hid (Below w8.heap.size w8 (w8.alloc (.cells #[.bool bo] 4))) := Lib.hid ((Below.refl _ _).alloc (Nat.le_refl _) _); have HO8 := Lib.hid (HS8.out.then_ HI.out HAL2.out).rb; clear hown hmv hcv) | (at_builtin; refine wpList_plain rfl fun K' hK' => ?_; refine wp_append_at (.tmp 83) (.tmp 85) 41 rfl 4 1 1 (.bool false) Try.underlying41 info_boolS rfl (by decide) _ _ _ 1 _ _ rfl rfl HO8.out (rd_one _ (.bool bo)) (fun u hu => by simp at hu; subst hu; rfl) (by omega) (by unfold maxLen; omega) (fun v9 w9 hown hmv => hK' _ _ ?_); rw [HBO.out] at hown; have HS9 := Lib.hid (stay_was HI.out HS8.out HAL2.out hown hmv); clear hown hmv))
                exact ⟨⟨c + 1, k + 1, by omega, by omega, by go_num, HS9⟩, by simp only [intOf]; omega⟩
              · have hcz : ¬ (c : Int) < 4 := by omega
                obtain rfl : c = 4 := by omega
                go_wp2_with fail
                exact ⟨⟨a + 1, k, by omega, by omega, by go_num, HS⟩, by simp only [intOf]; omega⟩
          · have haz : ¬ (a : Int) < 6 := by omega
            obtain rfl : a = 6 := by omega
            have HS2 : Hid (StR Ca W wr k q p T _ _ 24 24) := HS
            clear HS
            obtain ⟨bh, ch, e1, hch, _⟩ := row_form HS2.out.rh (by omega)
            obtain ⟨bw, cw, e2, hcw, _⟩ := row_form HS2.out.rb (by omega)
            subst e1 e2
            have hk65 : k ≤ 66 := by omega
            go_wp2_with fail
            refine (stay_again HI.out HS2.out (by omega)).mono ?_
            rintro e w4 ⟨q2, rfl, hs4⟩
            have HS4 := Lib.hid hs4
            clear hs4 HS2
            go_wp2_with fail
            refine (HLEN.out _ _ _ _ _ _ _ HS4.out).mono ?_
            rintro e w5 ⟨rfl, hs5⟩
            have HS5 := Lib.hid hs5
            clear hs5 HS4
            go_wp2_with fail
            go_loopw [14] (fun x9 wr => ∃ (i k : Nat), i ≤ 24 ∧ k ≤ 67 + i ∧ x9 = .int .i64 (i : Int) ∧ Hid (StR Ca W wr k q2 p T (.slice (some ⟨bh, 0, none⟩) 24 ch) (.slice (some ⟨bw, 0, none⟩) 24 cw) 24 24)) (fun x9 _ => 24 - (intOf x9).toNat)
            case atStart => exact ⟨0, k + 1, Nat.zero_le _, by omega, rfl, HS5⟩
            case round =>
              clear HS5
              obtain ⟨i, k, hi24x, hki, rfl, HS⟩ := hrel
              by_cases hi24 : i < 24
              · have hiz : (i : Int) < 24 := by omega
                obtain ⟨a, ha⟩ : ∃ a, i / 4 = a := ⟨_, rfl⟩
                obtain ⟨c, hc⟩ : ∃ c, i % 4 = c := ⟨_, rfl⟩
                have ha6 : a < 6 := by omega
                have hc4 : c < 4 := by omega
                have hie : 4 * a + c = i := by omega
                have m1 : (i : Int).tdiv 4 = (a : Int) := by rw [Int.tdiv_eq_ediv_of_nonneg (by omega)]; omega
                have m2 : (i : Int) / 4 = (a : Int) := by omega
                have m3 : (i : Int).tmod 4 = (c : Int) := by rw [Int.tmod_eq_emod_of_nonneg (by omega)]; omega
                have m4 : (i : Int) % 4 = (c : Int) := by omega
                have wa1 : IntKind.u8.wrap (a : Int) = (a : Int) := by rw [IntKind.wrap_u8]; omega
                have a6 : a % 6 = a := by omega
                have HNM := Lib.hid (fun w => name_any a (by omega) w)
                rw [a6] at HNM
                have HIE := Lib.hid hie
                clear a6 ha hc hie
                go_wp2_with fail
                refine (HNM.out _).mono ?_
                rintro e w6 ⟨rfl, hb6⟩
                have HS6 := Lib.hid (HS.out.then_ HI.out hb6)
                clear hb6 HS
                have hgt := stay_get HI.out HS6.out (by omega) ha6 hc4
                rw [HIE.out] at hgt
                obtain ⟨bo, hbo⟩ : ∃ bo, bo = (gotL T i).isSome := ⟨_, rfl⟩
                obtain ⟨bs, hbs⟩ : ∃ bs, bs = strB (tellC (gotL T i)) := ⟨_, rfl⟩
                rw [← hbo] at hgt
                have HGT := Lib.hid hgt
                have HBO := Lib.hid hbo
                have HBS := Lib.hid hbs
                clear hgt hbo hbs HS6
                go_wp2_with fail
                refine HGT.out.mono ?_
                rintro e w7 ⟨va7, m7, vc7, rfl, hr7, hs7⟩
                have CW : Hid (w7.cell? ⟨bw, i, none⟩ = some (.bool bo)) := Lib.hid (by rw [HBO.out]; exact row_cell hs7.rb (was_at hi24))
                have CH : Hid (w7.cell? ⟨bh, i, none⟩ = some (.string bs)) := Lib.hid (by rw [HBS.out]; exact row_cell hs7.rh (had_at hi24))
                have HRX : Hid (RdB w7.drew (.slice va7 m7 vc7) (tellC (gotL T i))) := Lib.hid (hr7.below ((Below.refl w7.heap.size w7).drew) (Nat.le_refl _))
                have HS8 := Lib.hid (hs7.then_ HI.out ((Below.refl w7.heap.size w7).drew))
                clear hr7 hs7 HGT
                go_wp2_with fail
                refine wp_region_plan [(true, 0), (true, 1), (true, 2), (true, 3), (true, 4), (true, 5), (true, 6), (true, 7), (true, 8), (true, 9), (true, 10), (true, 11), (true, 12), (true, 13), (true, 14)] (by kernel_rfl) (by kernel_rfl) (by kernel_rfl) (by kernel_rfl) (by kernel_rfl) ?_
                simp only [planO, List.drop_succ_cons, List.drop_zero]
                refine PlanO.take (v := ?vR0) (by kernel_rfl) ?yR0 ?rR0
                case yR0 => (intro wz hz; go_simp; try with_reducible rfl)
                (try simp only [Act.put, List.setIfInBounds_toArray, List.set_cons_zero, List.set_cons_succ])
                refine PlanO.take (v := ?vR1) (by kernel_rfl) ?yR1 ?rR1
                case yR1 => (intro wz hz; go_simp; try with_reducible rfl)
                (try simp only [Act.put, List.setIfInBounds_toArray, List.set_cons_zero, List.set_cons_succ])
                refine PlanO.take (v := ?vR2) (by kernel_rfl) ?yR2 ?rR2
                case yR2 => (intro wz hz; go_simp; try with_reducible rfl)
                (try simp only [Act.put, List.setIfInBounds_toArray, List.set_cons_zero, List.set_cons_succ])
                refine PlanO.take (v := ?vR3) (by kernel_rfl) ?yR3 ?rR3
                case yR3 => (intro wz hz; have cw := Ext.at_ hz CW.out; go_simp; try with_reducible rfl)
                (try simp only [Act.put, List.setIfInBounds_toArray, List.set_cons_zero, List.set_cons_succ])
                refine PlanO.take (v := ?vR4) (by kernel_rfl) ?yR4 ?rR4
                case yR4 => (intro wz hz; go_simp; try with_reducible rfl)
                (try simp only [Act.put, List.setIfInBounds_toArray, List.set_cons_zero, List.set_cons_succ])
                refine PlanO.take (v := .bool false) (by kernel_rfl) ?yR5 ?rR5
                case yR5 => (intro wz hz; go_simp; try with_reducible rfl)
                (try simp only [Act.put, List.setIfInBounds_toArray, List.set_cons_zero, List.set_cons_succ])
                refine PlanO.take (v := .bool false) (by kernel_rfl) ?yR6 ?rR6
                case yR6 => (intro wz hz; go_simp; try with_reducible rfl)
                (try simp only [Act.put, List.setIfInBounds_toArray, List.set_cons_zero, List.set_cons_succ])
                refine PlanO.take (v := ?vR7) (by kernel_rfl) ?yR7 ?rR7
                case yR7 => (intro wz hz; go_simp; try with_reducible rfl)
                (try simp only [Act.put, List.setIfInBounds_toArray, List.set_cons_zero, List.set_cons_succ])
                refine PlanO.take (v := ?vR8) (by kernel_rfl) ?yR8 ?rR8
                case yR8 => (intro wz hz; go_simp; try with_reducible rfl)
                (try simp only [Act.put, List.setIfInBounds_toArray, List.set_cons_zero, List.set_cons_succ])
                refine PlanO.take (v := ?vR9) (by kernel_rfl) ?yR9 ?rR9
                case yR9 => (intro wz hz; go_simp; try with_reducible rfl)
                (try simp only [Act.put, List.setIfInBounds_toArray, List.set_cons_zero, List.set_cons_succ])
                refine PlanO.take (v := ?vR10) (by kernel_rfl) ?yR10 ?rR10
                case yR10 => (intro wz hz; have ch := Ext.at_ hz CH.out; go_simp; try with_reducible rfl)
                (try simp only [Act.put, List.setIfInBounds_toArray, List.set_cons_zero, List.set_cons_succ])
                refine PlanO.take (v := ?vR11) (by kernel_rfl) ?yR11 ?rR11
                case yR11 => (intro wz hz; go_simp; try with_reducible rfl)
                (try simp only [Act.put, List.setIfInBounds_toArray, List.set_cons_zero, List.set_cons_succ])
                refine PlanO.take (v := ?vR12) (by kernel_rfl) ?yR12 ?rR12
                case yR12 => (intro wz hz; have hs := str_of (HRX.out.below hz (Nat.le_refl _)); rw [← HBS.out] at hs; go_simp; try with_reducible rfl)
                (try simp only [Act.put, List.setIfInBounds_toArray, List.set_cons_zero, List.set_cons_succ])
                refine PlanO.take (v := .bool false) (by kernel_rfl) ?yR13 ?rR13
                case yR13 => (intro wz hz; go_simp; try with_reducible rfl)
                (try simp only [Act.put, List.setIfInBounds_toArray, List.set_cons_zero, List.set_cons_succ])
                refine PlanO.take (v := ?vR14) (by kernel_rfl) ?yR14 ?rR14
                case yR14 => (intro wz hz; go_simp; try with_reducible rfl)
                (try simp only [Act.put, List.setIfInBounds_toArray, List.set_cons_zero, List.set_cons_succ])
                refine PlanO.done (NoPanic.normal ?_)
                go_wp2_with fail
                exact ⟨⟨i + 1, k + 1, by omega, by omega, by go_num, HS8⟩, by simp only [intOf]; omega⟩
              · have hiz : ¬ (i : Int) < 24 := by omega
                have HBW := Lib.hid HS.out.below
                go_wp2_with (go_at_call 8; (refine (HAW.out _).mono ?_); rintro e w9 ⟨rfl, hb9⟩; have HB9 := Lib.hid hb9; clear hb9)
                go_ret
                exact ⟨rfl, belowT HBW.out HB9.out⟩
end Go.Proofs.Ytmlijnekidihbaa
