/-
  The disk's looks: is it a name, which file has it, all names in order, how many bytes.
-/
import Derived.Test.YtmlijnekidihbaaDiskSmall
import Derived.Maps.RangeWalk
import Derived.StringKeys
namespace Go.Proofs.Ytmlijnekidihbaa
open Go.RowKit

theorem zero_int (w : World) : (zeroValue 3).run Try.prog w = .ok (.int .i64 0) w := by kernel_rfl

theorem name_key (s : ByteArray) (hs : s.size ≤ maxLen) : keyOf Try.prog 9 (.string s) = some (.string s.data.toList) := WideMaps.keyOf_string_mk Try.underlying9 hs

/-- What a map of names tells. -/
theorem nm_look {w : World} {v : Value} {l : DB} (h : Nm w v l) (s : ByteArray) (hs : s.size ≤ maxLen) :
    (Instr.lookup 57 v (.string s) true).run Try.prog w = .ok (.tuple #[.int .i64 (match dfind l s.data.toList with | some id => (id : Int) | none => 0), .bool (dfind l s.data.toList).isSome]) w := by
  rcases h with ⟨rfl, rfl⟩ | ⟨b, rfl, hm⟩
  · have := Maps.look_nil (P := Try.prog) (w := w) (t := 57) (k := 9) (e := 3) true (Maps.string_keyed Try.underlying9) Try.underlying57 (zero_int w) (name_key s hs)
    simpa [dfind] using this
  · obtain ⟨u, ps, hrun, hv⟩ := hm.look_ok (t := 57) (Maps.string_keyed Try.underlying9) Try.underlying57 (zero_int w) (plainElem_int Try.underlying3 (by decide)) (name_key s hs)
    obtain ⟨c, rfl, hc, _⟩ := plainElem_int_inv Try.underlying3 hv
    rw [hrun, mapD_has]
    rw [mapD_at] at hc
    have := congrArg Prod.fst hc
    simp only [DataW.lit.injEq, Lit.int.injEq, true_and] at this
    rw [← this]
    rfl

theorem nm_look_some {w : World} {v : Value} {l : DB} (h : Nm w v l) (s : ByteArray) (hs : s.size ≤ maxLen) {id : Nat} (hf : dfind l s.data.toList = some id) :
    (Instr.lookup 57 v (.string s) true).run Try.prog w = .ok (.tuple #[.int .i64 (id : Int), .bool true]) w := by
  have := nm_look h s hs
  rw [hf] at this
  exact this

theorem nm_look_none {w : World} {v : Value} {l : DB} (h : Nm w v l) (s : ByteArray) (hs : s.size ≤ maxLen) (hf : dfind l s.data.toList = none) :
    (Instr.lookup 57 v (.string s) true).run Try.prog w = .ok (.tuple #[.int .i64 0, .bool false]) w := by
  have := nm_look h s hs
  rw [hf] at this
  exact this

set_option maxRecDepth 100000 in
set_option maxHeartbeats 400000 in
theorem find_none (w : World) (p : Nat) (nv : Value) (l : DB) (s : ByteArray) (hs : s.size ≤ maxLen) (hc : w.cell? ⟨p, 6, none⟩ = some nv) (hn : Nm w nv l) (hf : dfind l s.data.toList = none) :
    Calls Try.prog 34 #[.pointer (some ⟨p, 0, none⟩), .string s] w fun e w' => e = .returned (.pointer none) ∧ w = w' := by
  have hl := nm_look_none hn s hs hf
  clear hn hf
  go_enter Try.func34, Try.ntmps34
  go_wp2
  go_ret
  exact ⟨rfl, rfl⟩

set_option maxRecDepth 100000 in
set_option maxHeartbeats 400000 in
theorem find_some (w : World) (p : Nat) (nv : Value) (l : DB) (s : ByteArray) (hs : s.size ≤ maxLen) (hc : w.cell? ⟨p, 6, none⟩ = some nv) (hn : Nm w nv l) (id : Nat) (hf : dfind l s.data.toList = some id)
    (fb n cap : Nat) (hd : w.cell? ⟨p, 5, none⟩ = some (.slice (some ⟨fb, 0, none⟩) n cap)) (hid : id < n) :
    Calls Try.prog 34 #[.pointer (some ⟨p, 0, none⟩), .string s] w fun e w' => e = .returned (.pointer (some ⟨fb, id * 3, none⟩)) ∧ w = w' := by
  have hl := nm_look_some hn s hs hf
  have h0 : (0 : Int) ≤ (id : Int) := by omega
  have h1 : (id : Int) < (n : Int) := by omega
  clear hn hf
  go_enter Try.func34, Try.ntmps34
  go_wp2
  go_ret
  exact ⟨rfl, rfl⟩


set_option maxRecDepth 100000 in
set_option maxHeartbeats 1000000 in
theorem isName_any (w : World) (s : ByteArray) (hs : s.size ≤ maxLen) :
    Calls Try.prog 65 #[.string s] w fun e w' => e = .returned (.bool (nmOk s.data.toList)) ∧ w = w' := by
  unfold maxLen at hs
  have hlen := size_list s
  by_cases h1 : s.size < 1
  · have hr : nmOk s.data.toList = false := by unfold nmOk; rw [hlen]; simp; omega
    rw [hr]
    go_enter Try.func65, Try.ntmps65
    go_wp2
    go_ret
    exact ⟨rfl, rfl⟩
  by_cases h2 : (40 : Int) < (s.size : Int)
  · have hr : nmOk s.data.toList = false := by unfold nmOk; rw [hlen]; simp; omega
    rw [hr]
    go_enter Try.func65, Try.ntmps65
    go_wp2
    go_ret
    exact ⟨rfl, rfl⟩
  have hok : nmOk s.data.toList = s.data.toList.all nmC := by
    unfold nmOk
    rw [hlen]
    have a1 : decide (1 ≤ s.size) = true := by simp; omega
    have a2 : decide (s.size ≤ 40) = true := by simp; omega
    rw [a1, a2]
    simp
  have hb1 : decide ((s.size : Int) < 1) = false := by simp; omega
  have HL := Lib.hid hlen
  clear hlen
  have HO := Lib.hid hok
  clear hok
  go_enter Try.func65, Try.ntmps65
  go_wp2
  go_loop [15] (fun i => ∃ k : Nat, k ≤ s.size ∧ i = .int .i64 k ∧ (s.data.toList.take k).all nmC = true) (fun i => s.size - (intOf i).toNat)
  case atStart => exact ⟨0, Nat.zero_le _, rfl, rfl⟩
  case round =>
    obtain ⟨k, hk, rfl, hall⟩ := hrel
    have HA := Lib.hid hall
    clear hall
    by_cases hlt : k < s.size
    · have hg := getD_list s k hlt
      have hl : k < s.data.toList.length := by rw [HL.out]; exact hlt
      have hst := all_take_succ s.data.toList k hl
      have hno := all_of_not (l := s.data.toList) (k := k) hl
      rw [hg] at hst hno
      have HS := Lib.hid hst
      have HN := Lib.hid hno
      clear hst hno hg
      obtain ⟨c, hcc⟩ : ∃ c : UInt8, s[k] = c := ⟨_, rfl⟩
      rw [hcc] at HS HN
      have hr : ∀ h : k < s.size, s[k] = c := fun _ => hcc
      clear hcc
      have hb := byte_le c
      rcases nm_ways c with ⟨hn, hw⟩ | ⟨hn, hw⟩
      · have hno := HN.out hn
        have HX : Hid (nmOk s.data.toList = false) := by rw [HO.out]; exact hno
        clear hno
        have HN2 := Lib.hid hn
        clear hn
        rcases hw with ⟨a1, a2, a3, a4⟩ | ⟨a1, a2⟩ | a1
        all_goals
          go_wp2
          go_ret
          exact ⟨congrArg (fun b => Ending.returned (.bool b)) HX.out.symm, rfl⟩
      · have HX : Hid ((s.data.toList.take (k + 1)).all nmC = true) := by rw [HS.out, HA.out, hn]; rfl
        have HN2 := Lib.hid hn
        clear hn
        rcases hw with ⟨a1, a2⟩ | ⟨a1, a2⟩ | a1 | a1
        all_goals
          go_wp2
          go_round
          case rel => exact ⟨k + 1, by omega, by go_num, HX.out⟩
          case measure => simp [intOf]; omega
    · have hall2 : s.data.toList.all nmC = true := by
        have := HA.out
        rwa [List.take_of_length_le (by rw [HL.out]; omega)] at this
      have HX : Hid (nmOk s.data.toList = true) := by rw [HO.out]; exact hall2
      clear hall2
      go_wp2
      go_ret
      exact ⟨congrArg (fun b => Ending.returned (.bool b)) HX.out.symm, rfl⟩

end Go.Proofs.Ytmlijnekidihbaa
