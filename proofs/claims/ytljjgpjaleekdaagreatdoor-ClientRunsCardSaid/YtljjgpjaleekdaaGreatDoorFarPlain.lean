/-
  A far store of one object, reckoned; small facts for the statements.
-/
import Derived.Test.YtljjgpjaleekdaaGreatDoorFarStore
import Derived.Test.YtljjgpjaleekdaaGreatDoorLift
namespace Go.Proofs.YtljjgpjaleekdaaGreatDoor
open Go.RowKit

theorem FOnR.rd {W w : World} {p : Nat} {f : FR} {v : Value} {l : List UInt8} (h : FOnR W w p f v l) : RdB w v l := by
  obtain ⟨_, _, _, _, h, _⟩ := h
  exact h

theorem o_putE {f : FR} {b : List UInt8} (hb : b.length ≤ 300) : f.putE [111] b = if (nfind f.objs [111]).isSome then 3 else 0 := by
  unfold FR.putE
  rw [show (!nmOk [111]) = false from rfl, if_neg (by simp), if_neg (by omega)]
theorem o_have {l : List Int} {c : Nat} {a b : List UInt8} (hb : b.length ≤ 300) : (⟨[([111], a)], l, c⟩ : FR).putE [111] b = 3 := by
  rw [o_putE hb]; rfl
theorem o_none {l : List Int} {c : Nat} {b : List UInt8} (hb : b.length ≤ 300) : (⟨[], l, c⟩ : FR).putE [111] b = 0 := by
  rw [o_putE hb]; rfl
theorem o_put0 {c : Nat} {b : List UInt8} (hb : b.length ≤ 300) : (⟨[], [], c⟩ : FR).put [111] b = (0, ⟨[([111], b)], [], c + 1⟩) := by
  unfold FR.put FR.does FR.putD
  rw [show (⟨[], [], c⟩ : FR).took = ⟨[], [], c + 1⟩ from rfl, o_none hb]
  dsimp only
  rw [o_none hb]
  rfl
theorem o_put1 {c : Nat} {b : List UInt8} (hb : b.length ≤ 300) : (⟨[], [1], c⟩ : FR).put [111] b = (8, ⟨[], [], c + 1⟩) := by
  unfold FR.put FR.does FR.putD
  rw [o_none hb]
  rfl
theorem o_put2 {c : Nat} {b : List UInt8} (hb : b.length ≤ 300) : (⟨[], [2], c⟩ : FR).put [111] b = (8, ⟨[([111], b)], [], c + 1⟩) := by
  unfold FR.put FR.does FR.putD
  rw [show (⟨[], [2], c⟩ : FR).took = ⟨[], [], c + 1⟩ from rfl, o_none hb]
  dsimp only
  rw [o_none hb]
  rfl
/-- One that is taken stays. -/
theorem o_puth {l : List Int} {c : Nat} {a b : List UInt8} (hb : b.length ≤ 300) : (⟨[([111], a)], l, c⟩ : FR).put [111] b = (tells (l.headD 0) 3, ⟨[([111], a)], l.tail, c + 1⟩) := by
  unfold FR.put FR.does FR.putD
  rw [show (⟨[([111], a)], l, c⟩ : FR).took = ⟨[([111], a)], l.tail, c + 1⟩ from rfl, o_have hb]
  dsimp only
  rw [o_have hb]
  show (tells (l.headD 0) 3, _) = _
  congr 1
  split <;> rfl
theorem o_fsm {a : List UInt8} {l : List Int} {c : Nat} (hl : l.length < 1000000) (hc : c < 100000) : FSm ⟨[([111], a)], l, c⟩ := ⟨by simp, hc, fun x hx => by simp at hx; subst hx; simp, hl⟩
theorem e_fsm {l : List Int} {c : Nat} (hl : l.length < 1000000) (hc : c < 100000) : FSm ⟨[], l, c⟩ := ⟨by simp, hc, fun x hx => (nomatch hx), hl⟩
theorem o_drop1 {c : Nat} {a : List UInt8} : (⟨[([111], a)], [1], c⟩ : FR).drop [111] = (8, ⟨[([111], a)], [], c + 1⟩) := rfl
theorem o_drop2 {c : Nat} {a : List UInt8} : (⟨[([111], a)], [2], c⟩ : FR).drop [111] = (8, ⟨[], [], c + 1⟩) := rfl
theorem o_drop0 {c : Nat} {a : List UInt8} : (⟨[([111], a)], [], c⟩ : FR).drop [111] = (0, ⟨[], [], c + 1⟩) := rfl

theorem rd_one (w : World) (n : Int) : Rd (w.alloc (.cells #[.int .i64 n] 3)) 1 (.slice (some ⟨w.heap.size, 0, none⟩) 1 1) [n].length ([n].map (Value.int .i64)) :=
  ⟨_, 1, rfl, Nat.le_refl _, by unfold maxLen; omega, rfl, .inr ⟨w.heap.size, 0, rfl, by simp, fun j u hj => by rw [Nat.zero_add, blk_cell (heap_alloc_new w _)]; simpa using hj⟩⟩

theorem on_next1 {W w : World} {p : Nat} {f : FR} (h : FOn W w p f) (n : Int) : Calls Tryz.prog 14 #[.pointer (some ⟨p, 0, none⟩), .slice (some ⟨w.heap.size, 0, none⟩) 1 1] (w.alloc (.cells #[.int .i64 n] 3)) fun e w' => e = .returned (.tuple #[]) ∧ FOn W w' p (f.next [n]) :=
  fon_next h ((Below.refl _ _).alloc (Nat.le_refl _) _) _ [n] (rd_one w n) (by simp)

theorem on_put {W w : World} {p : Nat} {f : FR} (h : FOn W w p f) (hs : FSm f) (v : Value) (b : List UInt8) (hv : RdB W v b) (hbl : b.length ≤ 300) (r : Nat) (f' : FR) (he : f.put [111] b = (r, f')) :
    Calls Tryz.prog 28 #[.pointer (some ⟨p, 0, none⟩), .string ⟨#[111]⟩, v] w fun e w' => e = .returned (.int .i64 (r : Int)) ∧ FOn W w' p f' :=
  fon_put h (Below.refl _ _) hs ⟨#[111]⟩ (by decide) v b (hv.below h.below (Nat.le_refl _)) (by unfold maxLen; omega) (fun hne k e => .inl (hv.blk_lt hne k e)) r f' he

theorem long_case {N : Nat} (_ : N = N) : True := trivial

theorem o_get {l : List Int} {c : Nat} {a : List UInt8} (hl : l = []) (ha : a.length ≤ 300) : (⟨[([111], a)], l, c⟩ : FR).get [111] 0 1000 = (a, 0) := by
  subst hl
  unfold FR.get
  have e1 : (⟨[([111], a)], [], c⟩ : FR).getE [111] 0 1000 = 0 := by
    unfold FR.getE
    show (if (0 : Int) < 0 ∨ (a.length : Int) < 0 ∨ (1000 : Int) < 0 then 1 else 0) = 0
    rw [if_neg (by omega)]
  have e2 : (⟨[([111], a)], [], c⟩ : FR).getB [111] 0 1000 = a := by
    unfold FR.getB
    show (a.drop 0).take 1000 = a
    rw [List.drop_zero, List.take_of_length_le (by omega)]
  rw [e1, e2]
  rfl
theorem e_get {c : Nat} : (⟨[], [], c⟩ : FR).get [111] 0 1000 = ([], 2) := rfl

/-- The object is there, as it was put. -/
def Kp (la : List UInt8) (f : FR) (n : Nat) : Prop := f.objs = [([111], la)] ∧ f.calls = n ∧ f.left.length ≤ 20

theorem kp_form {la : List UInt8} {f : FR} {n : Nat} (h : Kp la f n) : f = ⟨[([111], la)], f.left, n⟩ := by
  obtain ⟨h1, h2, _⟩ := h
  cases f
  simp only at h1 h2
  subst h1; subst h2
  rfl

theorem rd_of_rdI {w : World} {v : Value} {zs : List Int} (h : RdI .i64 w v zs) : Rd w 1 v zs.length (zs.map (Value.int .i64)) := by
  obtain ⟨a, cap, rfl, h1, h2, _, h4⟩ := h
  refine ⟨a, cap, rfl, h1, h2, by simp, ?_⟩
  rcases h4 with ⟨rfl, h5⟩ | ⟨b, off, rfl, h5, h6⟩
  · exact .inl ⟨rfl, h5⟩
  · refine .inr ⟨b, off, rfl, h5, fun j u hj => ?_⟩
    have hjl : j < zs.length := by
      rcases Nat.lt_or_ge j zs.length with h | h
      · exact h
      · simp [List.getElem?_eq_none h] at hj
    rw [h6 j hjl]
    simp only [List.getElem?_map, List.getElem?_eq_getElem hjl, Option.map_some, Option.some.injEq] at hj
    rw [← hj]
    simp [List.getD, hjl]

end Go.Proofs.YtljjgpjaleekdaaGreatDoor
