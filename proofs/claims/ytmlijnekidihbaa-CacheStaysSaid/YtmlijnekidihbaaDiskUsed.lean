/-
  How many bytes all files have together (what 'used' of a disk tells): a range over the map of names, in whatever order.
-/
import Derived.Test.YtmlijnekidihbaaDiskFFall
namespace Go.Proofs.Ytmlijnekidihbaa
open Go.RowKit

/-- The sum over those that are no longer to come. -/
def doneSum (L : Nat → Nat) (l : DB) (left : Lit → Bool) : Nat := (l.map fun x => if left (.string x.1) then 0 else L x.2).sum

theorem doneSum_start (L : Nat → Nat) (l : DB) : doneSum L l (Maps.has (mapD l)) = 0 := by
  unfold doneSum
  refine List.sum_eq_zero_iff_forall_eq_nat.2 fun n hn => ?_
  obtain ⟨x, hx, rfl⟩ := List.mem_map.1 hn
  rw [mapD_has]
  have : (dfind l x.1).isSome = true := by
    unfold dfind
    rw [Option.isSome_map, List.isSome_find?]
    exact List.any_eq_true.2 ⟨x, hx, by simp⟩
  rw [this]
  rfl

theorem doneSum_end (L : Nat → Nat) (l : DB) {left : Lit → Bool} (h : ∀ k, left k = false) : doneSum L l left = (l.map fun x => L x.2).sum := by
  unfold doneSum
  congr 1
  exact List.map_congr_left fun x _ => by rw [h]; rfl

theorem srt_ne {x : List UInt8 × Nat} {r : DB} (h : Srt (x :: r)) : ∀ y ∈ r, y.1 ≠ x.1 := by
  intro y hy e
  have := (List.pairwise_cons.1 h).1 y hy
  rw [e, bytesBefore_cmpL] at this
  rw [(cmpL_zero x.1 x.1).2 rfl] at this
  simp at this

theorem doneSum_step (L : Nat → Nat) : ∀ (l : DB) (left : Lit → Bool) (n : List UInt8) (id : Nat), Srt l → dfind l n = some id → left (.string n) = true → doneSum L l (fun z => left z && !z.sameKey (.string n)) = doneSum L l left + L id
  | [], _, _, _, _, h, _ => by cases h
  | x :: r, left, n, id, hs, h, hl => by
    have hr : Srt r := (List.pairwise_cons.1 hs).2
    by_cases e : x.1 = n
    · have hid : x.2 = id := by
        unfold dfind at h
        rw [List.find?_cons_of_pos (by simpa using e)] at h
        simpa using h
      have hrest : doneSum L r (fun z => left z && !z.sameKey (.string n)) = doneSum L r left := by
        unfold doneSum
        congr 1
        refine List.map_congr_left fun y hy => ?_
        have hy' := srt_ne hs y hy
        rw [e] at hy'
        have : (Lit.string y.1).sameKey (.string n) = false := by rw [sameKey_str]; simpa using hy'
        simp only [this, Bool.not_false, Bool.and_true]
      have h1 : (Lit.string x.1).sameKey (.string n) = true := by rw [sameKey_str]; simpa using e
      have e2 : ∀ lf : Lit → Bool, doneSum L (x :: r) lf = (if lf (.string x.1) then 0 else L x.2) + doneSum L r lf := fun lf => by simp [doneSum]
      rw [e2, e2, hrest, h1, e, hl, ← hid]
      simp
      omega
    · have hf : dfind r n = some id := by
        unfold dfind at h ⊢
        rw [List.find?_cons_of_neg (by simpa using e)] at h
        exact h
      have ih := doneSum_step L r left n id hr hf hl
      have h1 : (Lit.string x.1).sameKey (.string n) = false := by rw [sameKey_str]; simpa using e
      have e2 : ∀ lf : Lit → Bool, doneSum L (x :: r) lf = (if lf (.string x.1) then 0 else L x.2) + doneSum L r lf := fun lf => by simp [doneSum]
      rw [e2, e2, ih, h1]
      simp
      omega

theorem doneSum_le (L : Nat → Nat) (l : DB) (left : Lit → Bool) : doneSum L l left ≤ (l.map fun x => L x.2).sum := by
  unfold doneSum
  induction l with
  | nil => simp
  | cons x r ih =>
    simp only [List.map_cons, List.sum_cons]
    split <;> omega

theorem dfind_mem {l : DB} {n : List UInt8} {id : Nat} (h : dfind l n = some id) : ∃ x ∈ l, x.1 = n ∧ x.2 = id := by
  unfold dfind at h
  cases hx : l.find? fun x => x.1 == n with
  | none => rw [hx] at h; cases h
  | some x =>
    rw [hx] at h
    cases h
    exact ⟨x, List.mem_of_find?_eq_some hx, by simpa using List.find?_some hx, rfl⟩

set_option maxRecDepth 100000 in
set_option maxHeartbeats 2000000 in
theorem used_any (w : World) (p : Nat) (nv : Value) (l : DB) (L : Nat → Nat) (fb n cap : Nat) (hc : w.cell? ⟨p, 6, none⟩ = some nv) (hn : Nm w nv l) (hfv : l = [] ∨ w.cell? ⟨p, 5, none⟩ = some (.slice (some ⟨fb, 0, none⟩) n cap))
    (hid : ∀ x ∈ l, x.2 < n ∧ ∃ a c, w.cell? ⟨fb, x.2 * 3 + 1, none⟩ = some (.slice a (L x.2) c)) (hsum : (l.map fun x => L x.2).sum < 1000000000000) :
    Calls Try.prog 48 #[.pointer (some ⟨p, 0, none⟩)] w fun e w' => e = .returned (.int .i64 ((l.map fun x => L x.2).sum : Nat)) ∧ Below w.heap.size w w' := by
  rcases hn with ⟨rfl, rfl⟩ | ⟨b, rfl, hm⟩
  · have hrg := run_range_nilMap (P := Try.prog) w 57 9 3 Try.underlying57
    have hnx : ∀ ty, (Instr.next (.pointer (some ⟨w.heap.size, 0, none⟩)) false ty).run Try.prog (w.alloc (.mapIter none 0 #[] 0)) = _ := fun ty => run_next_nilMap w ty 0 0 #[]
    clear hfv hid hsum
    go_enter Try.func48, Try.ntmps48
    go_wp2
    refine wp_loop_rounds 1 ?_
    rw [rounds_succ]
    go_wp2
    go_ret
    exact ⟨rfl, (Below.refl _ _).alloc (Nat.le_refl _) _⟩
  · have hsrt := Lib.hid (srt_of_own hm)
    have hfv' : l = [] ∨ w.cell? ⟨p, 5, none⟩ = some (.slice (some ⟨fb, 0, none⟩) n cap) := hfv
    have HFV := Lib.hid hfv
    have HID := Lib.hid hid
    have HC := Lib.hid hc
    have HM := Lib.hid hm
    have hend := Lib.hid (fun left (h : ∀ k, left k = false) => doneSum_end L l (left := left) h)
    have hle := Lib.hid (doneSum_le L l)
    obtain ⟨tot, htot⟩ : ∃ t, t = (l.map fun x => L x.2).sum := ⟨_, rfl⟩
    rw [← htot] at hsum ⊢
    have HT := Lib.hid htot
    clear hfv hfv' hid htot
    go_enter Try.func48, Try.ntmps48
    go_wp2_with (at_range; refine wpList_range_own _ rfl _ 57 rfl 9 3 (Maps.string_keyed Try.underlying9) Try.underlying57 _ b l.length _ rfl HM.out ?_; intro w0 hrg0 hg0 hs0)
    go_frame
    clear hs0
    have hb0 : Below w.heap.size w w0 := (Below.refl _ _).grown hg0 (Nat.le_refl _) (fun k hk => by cases hk)
    have Hg0 := Lib.hid hg0
    clear hg0 hc hm
    go_loopw [3] (fun s wr => ∃ (left : Lit → Bool) (cnt : Nat), s = .int .i64 (doneSum L l left : Nat) ∧ wr.ranges Try.prog 9 (plainElem Try.prog 3) b w.heap.size l.length (mapD l) left cnt ∧ Below w.heap.size w wr)
      (fun _ wr => wr.rangeLeft b w.heap.size)
    case atStart => exact ⟨_, _, by rw [doneSum_start]; rfl, hrg0, hb0⟩
    case round =>
      obtain ⟨left, cnt, rfl, hrg, hB⟩ := hrel
      go_wp2_with (at_next; refine wpList_next_ranges _ rfl _ rfl 9 (Maps.string_keyed Try.underlying9) (plainElem Try.prog 3) encStr (Value.int .i64) (fun key kl hk => by obtain ⟨x, hx, _⟩ := Maps.keyOf_str Try.underlying9 hk; exact ⟨x, hx⟩) (fun v y hv => by obtain ⟨c, rfl, _⟩ := plainElem_int_inv Try.underlying3 hv; exact ⟨c, rfl⟩) b w.heap.size l.length _ _ _ rfl hrg ?_ ?_)
      · intro _ hl0
        have HX : Hid ((doneSum L l left : Nat) = tot) := by rw [HT.out]; exact hend.out left hl0
        clear hl0
        go_wp2
        go_ret
        exact ⟨congrArg (fun n : Nat => Ending.returned (.int .i64 (n : Int))) HX.out, hB⟩
      · intro x c kl yd yp w2 cnt2 hkey hlk hv hat hrg2 hlt hg2 hs2 hen
        clear hs2
        obtain ⟨x', ex, rfl, _⟩ := Maps.keyOf_str Try.underlying9 hkey
        obtain rfl : x = x' := encStr_inj ex
        clear ex
        obtain ⟨c', ec, hy, _⟩ := plainElem_int_inv Try.underlying3 hv
        cases ec
        have hf : ∃ id, dfind l x = some id ∧ c = (id : Int) := by
          have h1 := hat (.lit (.int .i64 0))
          have h2 := hat (.lit (.int .i64 1))
          rw [mapD_at] at h1 h2
          cases hd : dfind l x with
          | none =>
            rw [hd] at h1 h2
            rw [← h1] at h2
            simp at h2
          | some id =>
            rw [hd] at h1
            have hy1 := congrArg Prod.fst hy
            simp only at hy1 h1
            rw [hy1] at h1
            simp at h1
            exact ⟨id, rfl, h1.symm⟩
        obtain ⟨id, hd, rfl⟩ := hf
        clear hat hv hy hkey
        obtain ⟨xx, hxm, _, hx2⟩ := dfind_mem hd
        obtain ⟨hidn, a, cc, hcell⟩ := HID.out xx hxm
        rw [hx2] at hidn hcell
        have hfc : w.cell? ⟨p, 5, none⟩ = some (.slice (some ⟨fb, 0, none⟩) n cap) := by
          rcases HFV.out with h | h
          · subst h; cases hxm
          · exact h
        have hBx : Below w.heap.size w w2 := hB.grown hg2 (Nat.le_of_lt hrg.lt) (fun k hk => by cases hk; exact Nat.le_refl _)
        have hpl := World.block_lt_of_cell? w _ hfc
        have hfl := World.block_lt_of_cell? w _ hcell
        have c5 : w2.cell? ⟨p, 5, none⟩ = some (.slice (some ⟨fb, 0, none⟩) n cap) := (hBx.cell (p := ⟨p, 5, none⟩) hpl).trans hfc
        have cv : w2.cell? ⟨fb, id * 3 + 1, none⟩ = some (.slice a (L id) cc) := (hBx.cell (p := ⟨fb, id * 3 + 1, none⟩) hfl).trans hcell
        have hst := doneSum_step L l left x id hsrt.out hd hlk
        have hle2 := hle.out (fun z => left z && !z.sameKey (.string x))
        have HS := Lib.hid hst
        rw [hst, ← HT.out] at hle2
        have HD := Lib.hid hd
        have HLK := Lib.hid hlk
        have hid0 : (0 : Int) ≤ (id : Int) := by omega
        have hid1 : (id : Int) < (n : Int) := by omega
        have HHL := Lib.hid hlt
        have HG2 := Lib.hid hg2
        clear hst hd hlk hfc hcell hlt hg2
        generalize hds : doneSum L l left = ds at *
        have HDS := Lib.hid hds
        clear hds
        go_wp2
        go_roundw
        case rel => exact ⟨_, cnt2, by rw [HS.out]; go_num, hrg2, hBx⟩
        case measure => rw [hrg2.left_eq, hrg.left_eq]; exact HHL.out
end Go.Proofs.Ytmlijnekidihbaa
