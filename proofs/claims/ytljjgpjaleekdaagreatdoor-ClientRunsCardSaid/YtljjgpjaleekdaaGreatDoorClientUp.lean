/-
  The program's client: Up's and Drop's tries.
-/
import Derived.Test.YtljjgpjaleekdaaGreatDoorClientTried
import Derived.Test.YtljjgpjaleekdaaGreatDoorFarPlain
namespace Go.Proofs.YtljjgpjaleekdaaGreatDoor
open Go.RowKit

structure Fz (f : FR) (k : Nat) : Prop where
  objs : f.objs.length ≤ k
  calls : f.calls ≤ k

theorem nput_len' {β : Type} : ∀ (l : List (List UInt8 × β)) (n : List UInt8) (b : β), (nput l n b).length = l.length + 1
  | [], _, _ => rfl
  | x :: r, n, b => by
    unfold nput
    split
    · rfl
    · simp [nput_len' r n b]

theorem Fz.took {f : FR} {k : Nat} (h : Fz f k) : Fz f.took (k + 1) := ⟨Nat.le_succ_of_le h.objs, Nat.succ_le_succ h.calls⟩
theorem Fz.mono {f : FR} {k m : Nat} (h : Fz f k) (hm : k ≤ m) : Fz f m := ⟨Nat.le_trans h.objs hm, Nat.le_trans h.calls hm⟩
theorem Fz.put {f : FR} {k : Nat} (h : Fz f k) (n b : List UInt8) : Fz (f.put n b).2 (k + 1) := by
  show Fz (f.does (·.putD n b)) (k + 1)
  unfold FR.does
  split
  · exact h.took
  · unfold FR.putD
    dsimp only
    split
    · refine ⟨?_, h.took.calls⟩
      show (nput (nwithout f.objs n) n b).length ≤ k + 1
      rw [nput_len']
      exact Nat.succ_le_succ (Nat.le_trans (List.length_filter_le _ _) h.objs)
    · exact h.took
theorem Fz.drop {f : FR} {k : Nat} (h : Fz f k) (n : List UInt8) : Fz (f.drop n).2 (k + 1) := by
  show Fz (f.does (·.dropD n)) (k + 1)
  unfold FR.does
  split
  · exact h.took
  · exact ⟨Nat.le_trans (List.length_filter_le _ _) h.took.objs, h.took.calls⟩

/-- A call that only moves the far store, tried. -/
theorem tried_far {G : Nat → Prop} {w : World} {p : Nat} {f : FR} {m : Nat} (hf : FarAt G w p f) (hz : Fz f m) (g : FR → Nat × FR) (hg : ∀ f k, Fz f k → Fz (g f).2 (k + 1)) (k : Nat) (caps : Array Value) (hen : Enters Tryz.prog k)
    (hdo : ∀ G' w' f', FarAt G' w' p f' → Touch G w w' → Grows G G' w w' → Fz f' (m + 4) → Calls Tryz.prog k caps w' fun e w'' => e = .returned (.int .i64 ((g f').1 : Int)) ∧ FarTo G' w' w'' p (g f').2) :
    Calls Tryz.prog 32 #[.func (.func k) #[] caps] w fun e w' => e = .returned (.int .i64 ((FR.tries g 4 f).1 : Int)) ∧ FarTo G w w' p (FR.tries g 4 f).2 ∧ Fz (FR.tries g 4 f).2 (m + 4) := by
  refine (tried_any k caps hen w (fun i w' => ∃ f', FarTo G w w' p f' ∧ Fz f' (m + i) ∧ FR.tries g (4 - i) f' = FR.tries g 4 f)
    (fun r w' => ∃ f', FarTo G w w' p f' ∧ Fz f' (m + 4) ∧ FR.tries g 4 f = (r, f')) ⟨f, ⟨G, hf, Touch.refl _ _, Grows.refl _ _ _⟩, hz, rfl⟩ ?_).mono ?_
  · rintro i w' hi ⟨f', ⟨G', h1, h2, h3⟩, h4, h5⟩
    refine (hdo G' w' f' h1 h2 h3 (h4.mono (by omega))).mono ?_
    rintro e w'' ⟨rfl, h6⟩
    have h7 := FarTo.trans h2 h3 h6
    have h8 : FR.tries g (4 - i) f' = if (g f').1 = 8 then FR.tries g (4 - (i + 1)) (g f').2 else g f' := by
      rw [show 4 - i = (4 - (i + 1)) + 1 by omega]; rfl
    refine ⟨(g f').1, rfl, fun he => ⟨(g f').2, h7, hg _ _ h4, ?_⟩, fun hne => ⟨(g f').2, h7, (hg _ _ h4).mono (by omega), ?_⟩⟩
    · rw [← h5, h8, if_pos he]
    · rw [← h5, h8, if_neg hne]
  · rintro e w' ⟨r, rfl, ⟨rfl, f', h1, h2, h3⟩ | ⟨hr, f', h1, h2, h3⟩⟩
    · have h4 : FR.tries g 4 f = (8, f') := h3.symm
      rw [h4]
      exact ⟨rfl, h1, h2⟩
    · rw [h3]
      exact ⟨rfl, h1, h2⟩

theorem enters_up1 : Enters Tryz.prog 33 := enters_of Tryz.func33 (by kernel_rfl) rfl
theorem enters_cdrop1 : Enters Tryz.prog 41 := enters_of Tryz.func41 (by kernel_rfl) rfl

set_option maxRecDepth 100000 in
set_option maxHeartbeats 1000000 in
/-- Up's closure: any call of Put behind it. -/
theorem up1_any (w : World) (bf bn bb : Nat) (fv : Value) (s : ByteArray) (va : Option Addr) (n vc : Nat) (hbf : w.cell? ⟨bf, 0, none⟩ = some fv) (hbn : w.cell? ⟨bn, 0, none⟩ = some (.string s)) (hbb : w.cell? ⟨bb, 0, none⟩ = some (.slice va n vc)) {R : Nat → World → Prop}
    (hc : Calls Tryz.prog 28 #[fv, .string s, .slice va n vc] w fun e w' => ∃ r : Nat, e = .returned (.int .i64 (r : Int)) ∧ R r w') :
    Calls Tryz.prog 33 #[.pointer (some ⟨bf, 0, none⟩), .pointer (some ⟨bn, 0, none⟩), .pointer (some ⟨bb, 0, none⟩)] w fun e w' => ∃ r : Nat, e = .returned (.int .i64 (r : Int)) ∧ R r w' := by
  have HC := Lib.hid hc
  clear hc
  go_enter Tryz.func33, Tryz.ntmps33
  go_wp2_with (go_at_call 28; (with_reducible refine HC.out.mono ?_); rintro e w1 ⟨r, rfl, hr⟩)
  go_ret
  exact ⟨r, rfl, hr⟩

set_option maxRecDepth 100000 in
set_option maxHeartbeats 1000000 in
/-- Drop's closure. -/
theorem cdrop1_any (w : World) (bf bn : Nat) (fv : Value) (s : ByteArray) (hbf : w.cell? ⟨bf, 0, none⟩ = some fv) (hbn : w.cell? ⟨bn, 0, none⟩ = some (.string s)) {R : Nat → World → Prop}
    (hc : Calls Tryz.prog 42 #[fv, .string s] w fun e w' => ∃ r : Nat, e = .returned (.int .i64 (r : Int)) ∧ R r w') :
    Calls Tryz.prog 41 #[.pointer (some ⟨bf, 0, none⟩), .pointer (some ⟨bn, 0, none⟩)] w fun e w' => ∃ r : Nat, e = .returned (.int .i64 (r : Int)) ∧ R r w' := by
  have HC := Lib.hid hc
  clear hc
  go_enter Tryz.func41, Tryz.ntmps41
  go_wp2_with (go_at_call 42; (with_reducible refine HC.out.mono ?_); rintro e w1 ⟨r, rfl, hr⟩)
  go_ret
  exact ⟨r, rfl, hr⟩
end Go.Proofs.YtljjgpjaleekdaaGreatDoor
