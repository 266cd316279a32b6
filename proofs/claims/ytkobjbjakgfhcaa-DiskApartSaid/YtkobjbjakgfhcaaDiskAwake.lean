/-
  The example that the statements of layer 4 begin with.
-/
import Derived.Test.YtkobjbjakgfhcaaNum1
import Derived.Test.YtkobjbjakgfhcaaDiskFall
import Derived.Lib.SlBytesConst
namespace Go.Proofs.Ytkobjbjakgfhcaa
open Go.RowKit

def k0 : PD := PD.new 100 0 false
def k1 : PD := ⟨100, 0, false, 1, false, [PF.new], [([97], 0)], [], [⟨0, [], [97], 0⟩]⟩
def k2 : PD := ⟨100, 0, false, 2, false, [⟨[], [120, 121], [(0, [120, 121])]⟩], [([97], 0)], [], [⟨0, [], [97], 0⟩]⟩
def k3 : PD := ⟨100, 0, false, 3, false, [⟨[120, 121], [120, 121], []⟩], [([97], 0)], [], [⟨0, [], [97], 0⟩]⟩
def k4 : PD := ⟨100, 0, false, 0, false, [], [], [], []⟩

theorem k0_make : k0.make [97] = (0, k1) := by kernel_rfl
theorem k1_write : k1.write [97] 0 [120, 121] = (0, k2) := by kernel_rfl
theorem k2_safe : k2.makeSafe [97] = (0, k3) := by kernel_rfl
theorem k3_redone : k3.redone (rest 0 k3.loose.length) = { k3 with names := [] } := by kernel_rfl
theorem k3_fall : ((((k3.redone (rest 0 k3.loose.length)).fell [] (k3.redone (rest 0 k3.loose.length)).names.length).settled).begun 100 0 false) = k4 := by kernel_rfl
theorem k3_list : k3.list.length = 1 := by kernel_rfl
theorem k4_list : k4.list.length = 0 := by kernel_rfl

theorem fallF_nil (keep : List Int) (fs : List PF) (k : Nat) : fallF keep [] fs k = fs := by
  induction k with
  | zero => rfl
  | succ k ih => simpa [fallF] using ih

theorem k_fl {safe now : List UInt8} (h1 : safe.length < 1000) (h2 : now.length < 1000) : ∀ f ∈ [(⟨safe, now, []⟩ : PF)], f.safe.length < 2000000 ∧ f.now.length < 2000000 ∧ f.loose.length < 10000 ∧ manyL f.loose < 900000000 ∧ WOk f.safe f.loose ∧ ∀ left, (kept f.loose left f.safe).length < 2000000 := by
  intro f hf
  rw [List.mem_singleton] at hf
  subst hf
  exact ⟨by show safe.length < _; omega, by show now.length < _; omega, by show 0 < 10000; omega, by show 0 < 900000000; omega, trivial, fun left => by simp only [kept]; omega⟩
theorem k_ch : ∀ c ∈ [(⟨0, [], [97], 0⟩ : PC)], ChOk c := by
  intro c hc
  rw [List.mem_singleton] at hc
  subst hc
  exact ⟨by decide, by decide, by decide, by decide⟩

theorem k0_small : Small k0 := ⟨by decide, by decide, by decide, by decide, by decide, by simp [k0, PD.new], by simp [k0, PD.new], by simp [k0, PD.new], by simp [k0, PD.new], by simp [k0, PD.new], by simp [k0, PD.new]⟩
theorem k1_small : Small k1 := ⟨by decide, by decide, by decide, by decide, by decide, by simp [k1], by simp [k1], k_ch, k_fl (by decide) (by decide), by simp [k1], by simp [k1]⟩
theorem k2_small : Small k2 := by
  refine ⟨by decide, by decide, by decide, by decide, by decide, by simp [k2], by simp [k2], k_ch, ?_, by simp [k2], by simp [k2]⟩
  intro f hf
  have hf : f = ⟨[], [120, 121], [(0, [120, 121])]⟩ := List.mem_singleton.1 hf
  subst hf
  refine ⟨by decide, by decide, by decide, by decide, ⟨Nat.zero_le _, trivial⟩, fun left => ?_⟩
  simp only [kept]
  split
  · simp
  · simp [wr]; omega
theorem k3_small (l : DB) (h1 : l.length < 10000) (h2 : ∀ x ∈ l, x.2 < 1) (h3 : ∀ x ∈ l, x.1.length < 1000) : Small { k3 with names := l } :=
  ⟨by simp [k3], by simp [k3], h1, by simp [k3], by simp [k3], by simpa [k3] using h2, by simp [k3], k_ch, k_fl (by decide) (by decide), h3, by simp [k3]⟩
theorem k3_redones (k : Nat) : Small (k3.redone k) := by
  cases k with
  | zero => exact k3_small [] (by decide) (by simp) (by simp)
  | succ k =>
    have e : k3.redone (k + 1) = { k3 with names := [([97], 0)] } := by
      have h1 : k3.loose.take (k + 1) = k3.loose := by simp [k3]
      have h2 : k3.loose.foldl ren k3.safe = [([97], 0)] := by kernel_rfl
      unfold PD.redone
      rw [h1, h2]
    rw [e]
    exact k3_small _ (by decide) (by simp) (by simp)
theorem k3_fells (k : Nat) : Small ((k3.redone (rest 0 k3.loose.length)).fell [] k) := by
  rw [k3_redone]
  unfold PD.fell
  rw [fallF_nil]
  exact k3_small [] (by decide) (by simp) (by simp)

theorem k4_small : Small k4 := ⟨by decide, by decide, by decide, by decide, by decide, by simp [k4], by simp [k4], by simp [k4], by simp [k4], by simp [k4], by simp [k4]⟩

/-- The example's disk, from call to call. -/
theorem rd_xy (w : World) : RdB (w.alloc (.cells #[.int .u8 120, .int .u8 121] 5 (2, 3))) (.slice (some ⟨w.heap.size, 0, none⟩) 2 2) [120, 121] :=
  ⟨_, 2, rfl, Nat.le_refl _, by unfold maxLen; omega, rfl, .inr ⟨w.heap.size, 0, rfl, by simp, fun j u hj => by rw [Nat.zero_add, World.cell?_alloc_mark]; simpa [bv] using hj⟩⟩

theorem run_make {g : Gh} {w : World} {p : Nat} (h : DiskAt g w p k0) : Calls Try.prog 18 #[.pointer (some ⟨p, 0, none⟩), .string ⟨#[97]⟩] w fun e w' => e = .returned (.int .i64 0) ∧ ∃ g', DiskAt g' w' p k1 ∧ Step g g' w w' := by
  have hm := make_at h k0_small (by decide) ⟨#[97]⟩ (by decide)
  rw [show (⟨#[97]⟩ : ByteArray).data.toList = [97] from rfl, k0_make] at hm
  exact hm
theorem run_write {g : Gh} {w : World} {p : Nat} (h : DiskAt g w p k1) : Calls Try.prog 19 #[.pointer (some ⟨p, 0, none⟩), .string ⟨#[97]⟩, .int .i64 0, .slice (some ⟨w.heap.size, 0, none⟩) 2 2] (w.alloc (.cells #[.int .u8 120, .int .u8 121] 5 (2, 3))) fun e w' => e = .returned (.int .i64 0) ∧ ∃ g', DiskAt g' w' p k2 ∧ Step g g' w w' := by
  have hb : Below w.heap.size w (w.alloc (.cells #[.int .u8 120, .int .u8 121] 5 (2, 3))) := (Below.refl _ _).alloc (Nat.le_refl _) _
  have hm := write_at (h.below hb) k1_small (by decide) ⟨#[97]⟩ (by decide) 0 _ [120, 121] (rd_xy w) (by decide) (fun _ k e => by cases e; exact out_of h (Nat.le_refl _))
  rw [show (⟨#[97]⟩ : ByteArray).data.toList = [97] from rfl, k1_write] at hm
  refine hm.mono ?_
  rintro e w' ⟨rfl, g', h1, h2⟩
  exact ⟨rfl, g', h1, (Step.below hb).trans h2⟩
theorem run_safe {g : Gh} {w : World} {p : Nat} (h : DiskAt g w p k2) : Calls Try.prog 22 #[.pointer (some ⟨p, 0, none⟩), .string ⟨#[97]⟩] w fun e w' => e = .returned (.int .i64 0) ∧ ∃ g', DiskAt g' w' p k3 ∧ Step g g' w w' := by
  have hm := safe_at h k2_small (by decide) ⟨#[97]⟩ (by decide)
  rw [show (⟨#[97]⟩ : ByteArray).data.toList = [97] from rfl, k2_safe] at hm
  exact hm
theorem run_files {g : Gh} {w : World} {p : Nat} {d : PD} (h : DiskAt g w p d) (hs : Small d) (n : Nat) (hn : d.list.length = n) : Calls Try.prog 12 #[.pointer (some ⟨p, 0, none⟩)] w fun e w' => ∃ va cap, e = .returned (.slice va n cap) ∧ DiskAt g w' p d ∧ Step g g w w' := by
  refine (files_at h hs).mono ?_
  rintro e w' ⟨v, rfl, h1, h2⟩
  rw [hn] at h1
  obtain ⟨va, cap, rfl, _, _⟩ := rd_of_own h1
  exact ⟨va, cap, rfl, h.below h2, Step.below h2⟩
theorem run_fall {g : Gh} {w : World} {p : Nat} (h : DiskAt g w p k3) : Calls Try.prog 23 #[.pointer (some ⟨p, 0, none⟩), .agg #[.int .i64 100, .int .i64 0, .bool false, .slice none 0 0, .int .i64 0]] w fun e w' => e = .returned (.tuple #[]) ∧ ∃ g', DiskAt g' w' p k4 ∧ Step g g' w w' := by
  have hm := fall_at h 100 0 0 false (.slice none 0 0) [] (by decide) (by simp) (by decide) (.inl ⟨rfl, rfl⟩) k3_redones k3_fells (by rw [k3_redone]; exact List.nodup_nil)
  rw [k3_fall] at hm
  exact hm

set_option maxRecDepth 100000 in
set_option maxHeartbeats 4000000 in
set_option linter.unusedSimpArgs false in
theorem awake4_any (w : World) : Calls Try.prog 6 #[] w fun e w' => e = .returned (.bool true) ∧ Below w.heap.size w w' := by
  have HN := Lib.hid (new_any w 100 0 0 false (.slice none 0 0))
  go_enter Try.func6, Try.ntmps6
  have hcv := fun (w : World) (C : Array Value) (n c : Nat) => Lib.run_convert_bytes_const (P := Try.prog) w 32 5 C n c Try.underlying32 Try.underlying5
  go_wp2_with (first | (go_at_call 7; (with_reducible refine HN.out.mono ?_); rintro e w1 ⟨p, rfl, hp, hd1, hb1⟩; have HD1 := Lib.hid hd1; have HB1 := Lib.hid hb1; clear hd1 hb1) | (go_at_call 18; (with_reducible refine (run_make (g := Gh.new p) HD1.out).mono ?_); rintro e w2 ⟨rfl, g2, hd2, hst2⟩; have HD2 := Lib.hid hd2; have HST2 := Lib.hid hst2; clear hd2 hst2) | (go_at_call 19; (with_reducible refine (run_write HD2.out).mono ?_); rintro e w3 ⟨rfl, g3, hd3, hst3⟩; have HD3 := Lib.hid hd3; have HST3 := Lib.hid hst3; clear hd3 hst3) | (go_at_call 22; (with_reducible refine (run_safe HD3.out).mono ?_); rintro e w4 ⟨rfl, g4, hd4, hst4⟩; have HD4 := Lib.hid hd4; have HST4 := Lib.hid hst4; clear hd4 hst4) | (go_at_call 12; (with_reducible refine (run_files HD4.out (k3_small _ (by decide) (by simp [k3]) (by simp [k3])) 1 k3_list).mono ?_); rintro e w5 ⟨va, vc, rfl, hd5, hst5⟩; have HD5 := Lib.hid hd5; have HST5 := Lib.hid hst5; clear hd5 hst5) | (go_at_call 23; (with_reducible refine (run_fall HD5.out).mono ?_); rintro e w6 ⟨rfl, g6, hd6, hst6⟩; have HD6 := Lib.hid hd6; have HST6 := Lib.hid hst6; clear hd6 hst6) | (go_at_call 21; (with_reducible refine (num1_any _ 0).mono ?_); rintro e w8 ⟨rfl, rfl⟩) | (go_at_call 12; (with_reducible refine (run_files HD6.out k4_small 0 k4_list).mono ?_); rintro e w7 ⟨va2, vc2, rfl, hd7, hst7⟩; have HD7 := Lib.hid hd7; have HST7 := Lib.hid hst7; clear hd7 hst7))
  go_ret
  refine ⟨rfl, ?_⟩
  have hst := ((((HST2.out.trans HST3.out).trans HST4.out).trans HST5.out).trans HST6.out).trans HST7.out
  refine HB1.out.trans (Kept.below hst.touch fun k hk => ⟨?_, ?_⟩)
  · have := HB1.out.size; omega
  · intro e
    apply e
    show (if k = p then Role.disk else .out) = .out
    rw [if_neg (by omega)]
end Go.Proofs.Ytkobjbjakgfhcaa
