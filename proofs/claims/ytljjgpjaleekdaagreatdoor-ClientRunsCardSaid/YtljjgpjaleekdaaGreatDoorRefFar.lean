/-
  The document's far store (iceboxref4): in memory; its small functions: take, at, told, Named, Calls, Left, Next.
-/
import Derived.Test.YtljjgpjaleekdaaGreatDoorFarStore
import Derived.Laws.AppendOwnNone
namespace Go.Proofs.YtljjgpjaleekdaaGreatDoor
open Go.RowKit

/-- The document's store lies at 'q'; 'H': its blocks (and maybe more). -/
structure RefAt (H : Nat → Prop) (w : World) (q : Nat) (f : FR) : Prop where
  ex : ∃ lv nv, w.heap[q]? = some (.cells #[lv, nv, .int .i64 (f.calls : Int)] 30 (0, 0)) ∧ Rd w 3 lv f.objs.length (fileCells f.objs) ∧ Lf w nv f.left ∧ (∀ k, lv.ownBlock = some k → H k ∧ k ≠ q) ∧ (∀ k, nv.ownBlock = some k → H k ∧ k ≠ q)
  hq : H q
  lt : ∀ k, H k → k < w.heap.size

theorem RefAt.kept {H : Nat → Prop} {w w' : World} {q : Nat} {f : FR} {R : Nat → Prop} (h : RefAt H w q f) (hk : Kept R w w') (hR : ∀ k, H k → R k) : RefAt H w' q f := by
  obtain ⟨⟨lv, nv, h1, h2, h3, h4, h5⟩, hq, lt⟩ := h
  exact ⟨⟨lv, nv, (hk.block q (hR q hq)).trans h1, Rd.kept h2 hk fun k e => hR k (h4 k e).1, Rd.kept h3 hk fun k e => hR k (h5 k e).1, h4, h5⟩, hq, fun k hk' => Nat.lt_of_lt_of_le (lt k hk') hk.size⟩

theorem RefAt.touch {H : Nat → Prop} {w w' : World} {q : Nat} {f : FR} {F : Nat → Prop} (h : RefAt H w q f) (hk : Touch F w w') (hF : ∀ k, H k → ¬ F k) : RefAt H w' q f :=
  h.kept (R := H) (Kept.mono hk fun k hk' => ⟨h.lt k hk', hF k hk'⟩) fun _ h => h

theorem RefAt.below {H : Nat → Prop} {w w' : World} {q : Nat} {f : FR} (h : RefAt H w q f) (hb : Below w.heap.size w w') : RefAt H w' q f :=
  h.kept (R := H) (Kept.of hb fun k hk => h.lt k hk) fun _ h => h

def RefTo (H : Nat → Prop) (w w' : World) (q : Nat) (f : FR) : Prop := ∃ H', RefAt H' w' q f ∧ Touch H w w' ∧ Grows H H' w w'

theorem RefTo.trans {H H1 : Nat → Prop} {w w1 w' : World} {q : Nat} {f : FR} (ht : Touch H w w1) (hg : Grows H H1 w w1) (h : RefTo H1 w1 w' q f) : RefTo H w w' q f := by
  obtain ⟨G2, h1, h2, h3⟩ := h
  exact ⟨G2, h1, ht.trans h2 hg, hg.trans h3 ht.size h2.size⟩

theorem RefTo.then {H : Nat → Prop} {w w1 w' : World} {q : Nat} {f : FR} (h : RefTo H w w1 q f) (hb : Below w1.heap.size w1 w') : RefTo H w w' q f := by
  obtain ⟨H', h1, h2, h3⟩ := h
  exact ⟨H', h1.below hb, h2.trans (Touch.of_below (F := H') hb) h3, fun k hk => (h3 k hk).imp id fun h => ⟨h.1, Nat.lt_of_lt_of_le h.2 hb.size⟩⟩

theorem rcalls_any (w : World) (p : Nat) (n : Int) (h : w.cell? ⟨p, 2, none⟩ = some (.int .i64 n)) :
    Calls Tryz.prog 11 #[.pointer (some ⟨p, 0, none⟩)] w fun e w' => e = .returned (.int .i64 n) ∧ w = w' := by
  go_enter Tryz.func11, Tryz.ntmps11
  go_wp2
  go_ret
  exact ⟨rfl, rfl⟩

theorem rleft_any (w : World) (p : Nat) (a : Option Addr) (n cap : Nat) (h : w.cell? ⟨p, 1, none⟩ = some (.slice a n cap)) :
    Calls Tryz.prog 13 #[.pointer (some ⟨p, 0, none⟩)] w fun e w' => e = .returned (.int .i64 (n : Int)) ∧ w = w' := by
  go_enter Tryz.func13, Tryz.ntmps13
  go_wp2
  go_ret
  exact ⟨rfl, rfl⟩

theorem told_any (w : World) (out : Int) (e : Nat) :
    Calls Tryz.prog 51 #[.int .i64 out, .int .i64 (e : Int)] w fun x w' => x = .returned (.int .i64 (tells out e : Int)) ∧ w = w' := by
  by_cases h1 : out = 1
  · subst h1
    go_enter Tryz.func51, Tryz.ntmps51
    go_wp2
    go_ret
    exact ⟨rfl, rfl⟩
  · by_cases h2 : out = 2
    · subst h2
      go_enter Tryz.func51, Tryz.ntmps51
      go_wp2
      go_ret
      exact ⟨rfl, rfl⟩
    · have ht : tells out e = e := by unfold tells; rw [if_neg (by omega)]
      rw [ht]
      clear ht
      have b1 : (out == 1) = false := by simpa using h1
      have b2 : (out == 2) = false := by simpa using h2
      go_enter Tryz.func51, Tryz.ntmps51
      go_wp2
      go_ret
      exact ⟨rfl, rfl⟩

set_option maxRecDepth 100000 in
set_option maxHeartbeats 2000000 in
theorem named_any (w : World) (s : ByteArray) (hs : s.size ≤ maxLen) :
    Calls Tryz.prog 49 #[.string s] w fun e w' => e = .returned (.bool (nmOk s.data.toList)) ∧ w = w' := by
  have hlen := size_list s
  unfold maxLen at hs
  have HL := Lib.hid hlen
  clear hlen
  go_enter Tryz.func49, Tryz.ntmps49
  go_wp2
  go_loop [3] (fun i => ∃ k : Nat, k ≤ s.size ∧ i = .int .i64 k ∧ (s.data.toList.take k).all nmC = true) (fun i => s.size - (intOf i).toNat)
  case atStart => exact ⟨0, Nat.zero_le _, rfl, rfl⟩
  case round =>
    obtain ⟨k, hk, rfl, hall⟩ := hrel
    have HA := Lib.hid hall
    clear hall
    by_cases hlt : k < s.size
    · have hg := getD_list s k hlt
      have hl : k < s.data.toList.length := by rw [HL.out]; exact hlt
      have hst := all_take_succ s.data.toList k hl
      have hno := all_of_not (l := s.data.toList) (k := k) hl
      rw [hg] at hst hno
      have HS := Lib.hid hst
      have HN := Lib.hid hno
      clear hst hno hg
      obtain ⟨c, hcc⟩ : ∃ c : UInt8, s[k] = c := ⟨_, rfl⟩
      rw [hcc] at HS HN
      have hr : ∀ h : k < s.size, s[k] = c := fun _ => hcc
      clear hcc
      have hb := byte_le c
      rcases nm_ways c with ⟨hn, hw⟩ | ⟨hn, hw⟩
      · have hno := HN.out hn
        have HX := Lib.hid (show nmOk s.data.toList = false by unfold nmOk; rw [hno]; rfl)
        clear hno
        have HN2 := Lib.hid hn
        clear hn
        have b1 : ((c.toNat : Int) == 45) = false := by
          rcases hw with ⟨a1, a2, a3, a4⟩ | ⟨a1, a2⟩ | a1 <;> (simp; omega)
        have b2 : ((c.toNat : Int) == 46) = false := by
          rcases hw with ⟨a1, a2, a3, a4⟩ | ⟨a1, a2⟩ | a1 <;> (simp; omega)
        rcases hw with ⟨a1, a2, a3, a4⟩ | ⟨a1, a2⟩ | a1
        · go_wp2
          go_ret
          exact ⟨congrArg (fun b => Ending.returned (.bool b)) HX.out.symm, rfl⟩
        · have b3 : decide ((c.toNat : Int) ≤ 57) = false := decide_eq_false (by omega)
          go_wp2
          go_ret
          exact ⟨congrArg (fun b => Ending.returned (.bool b)) HX.out.symm, rfl⟩
        · have b3 : decide ((c.toNat : Int) ≤ 57) = false := decide_eq_false (by omega)
          have b4 : decide ((c.toNat : Int) ≤ 122) = false := decide_eq_false (by omega)
          go_wp2
          go_ret
          exact ⟨congrArg (fun b => Ending.returned (.bool b)) HX.out.symm, rfl⟩
      · have HX := Lib.hid (show (s.data.toList.take (k + 1)).all nmC = true by rw [HS.out, HA.out, hn]; rfl)
        have HN2 := Lib.hid hn
        clear hn
        rcases hw with ⟨a1, a2⟩ | ⟨a1, a2⟩ | a1 | a1
        all_goals
          go_wp2
          all_goals
            go_round
            case rel => exact ⟨k + 1, by omega, by go_num, HX.out⟩
            case measure => simp [intOf]; omega
    · have hall2 : s.data.toList.all nmC = true := by
        have := HA.out
        rwa [List.take_of_length_le (by rw [HL.out]; omega)] at this
      have HX := Lib.hid (show nmOk s.data.toList = (decide (1 ≤ s.size) && decide (s.size ≤ 40)) by unfold nmOk; rw [hall2, HL.out, Bool.true_and])
      clear hall2
      by_cases h1 : 1 ≤ s.size
      · by_cases h2 : s.size ≤ 40
        · go_wp2
          go_ret
          exact ⟨by rw [HX.out, decide_eq_true h1, decide_eq_true h2]; exact congrArg (fun b => Ending.returned (Value.bool b)) (decide_eq_true (show (s.size : Int) ≤ 40 by omega)), rfl⟩
        · go_wp2
          go_ret
          exact ⟨by rw [HX.out, decide_eq_true h1, decide_eq_false h2]; exact congrArg (fun b => Ending.returned (Value.bool b)) (decide_eq_false (show ¬ (s.size : Int) ≤ 40 by omega)), rfl⟩
      · go_wp2
        go_ret
        exact ⟨by rw [HX.out, decide_eq_false h1]; rfl, rfl⟩
end Go.Proofs.YtljjgpjaleekdaaGreatDoor
