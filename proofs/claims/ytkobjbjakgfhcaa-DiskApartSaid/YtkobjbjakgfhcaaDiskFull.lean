/-
  The walk of the statement DiskFull.
-/
import Derived.Test.YtkobjbjakgfhcaaDiskOn
namespace Go.Proofs.Ytkobjbjakgfhcaa
open Go.RowKit

def fw (l : List UInt8) : PF := ⟨[], wr [] 0 l, [(0, l)]⟩
def fS (r : Int) (c : Nat) (fa fb : PF) : PD := ⟨r, 0, false, c, false, [fa, fb], [([97], 0), ([98], 1)], [], [⟨0, [], [97], 0⟩, ⟨0, [], [98], 1⟩]⟩
def fT (r : Int) (c : Nat) (fa fb : PF) : PD := ⟨r, 0, false, c, false, [fa, fb], [([98], 1)], [], [⟨0, [], [97], 0⟩, ⟨0, [], [98], 1⟩, ⟨2, [97], [], 0⟩]⟩
def f1 (r : Int) : PD := ⟨r, 0, false, 1, false, [PF.new], [([97], 0)], [], [⟨0, [], [97], 0⟩]⟩

theorem fw_len (l : List UInt8) : (fw l).now.length = l.length := by simp [fw, wr]

theorem f_make1 (r : Int) : (PD.new r 0 false).make [97] = (0, f1 r) := by kernel_rfl
theorem f_make2 (r : Int) : (f1 r).make [98] = (0, fS r 2 PF.new PF.new) := by kernel_rfl
theorem no_crash {d : PD} (h : d.crash = 0) : d.dn = false := by
  unfold PD.dn
  rw [h]
  exact decide_eq_false (by omega)
theorem err_none {d : PD} (h : d.crash = 0) : d.err = 0 := by unfold PD.err; rw [no_crash h]; rfl
theorem after_none {d : PD} (h : d.crash = 0) (f : PD → PD) : d.after f = f { d with calls := d.calls + 1, down := false } := by unfold PD.after PD.isdo PD.cnt; rw [no_crash h]; rfl

/-- A write from the beginning of a file on, of a disk that is up. -/
theorem write_zero {d : PD} {n : List UInt8} {id u : Nat} {l : List UInt8} (hd : d.down = false) (hc : d.crash = 0) (hf : dfind d.names n = some id) (hu : d.used = u) (hl : l.length ≤ 300) :
    d.write n 0 l = if d.room < (u : Int) + max 0 ((l.length : Int) - ((d.file id).now.length : Int)) then (6, d) else (0, { d with calls := d.calls + 1, down := false, files := d.files.set id ((d.file id).wrote 0 l) }) := by
  unfold PD.write
  rw [hf, hu, hd, if_neg (by simp)]
  dsimp only
  rw [if_neg (by omega), if_neg (by omega), Int.zero_add, err_none hc, after_none hc]
  rfl

theorem f_writeA (r : Int) (la : List UInt8) (hl : la.length ≤ 300) : (fS r 2 PF.new PF.new).write [97] 0 la = if (la.length : Int) ≤ r then (0, fS r 3 (fw la) PF.new) else (6, fS r 2 PF.new PF.new) := by
  have e1 : dfind (fS r 2 PF.new PF.new).names [97] = some 0 := by kernel_rfl
  have e2 : (fS r 2 PF.new PF.new).used = 0 := by kernel_rfl
  rw [write_zero rfl rfl e1 e2 hl]
  have e3 : (((fS r 2 PF.new PF.new).file 0).now.length : Int) = 0 := rfl
  have e4 : (fS r 2 PF.new PF.new).room = r := rfl
  rw [e3, e4]
  by_cases h : (la.length : Int) ≤ r
  · rw [if_neg (by omega), if_pos h]
    rfl
  · rw [if_pos (by omega), if_neg h]

theorem f_writeB (r : Int) (c u : Nat) (fa : PF) (hu : fa.now.length = u) (lb : List UInt8) (hl : lb.length ≤ 300) : (fS r c fa PF.new).write [98] 0 lb = if (u : Int) + (lb.length : Int) ≤ r then (0, fS r (c + 1) fa (fw lb)) else (6, fS r c fa PF.new) := by
  have e1 : dfind (fS r c fa PF.new).names [98] = some 1 := by kernel_rfl
  have e2 : (fS r c fa PF.new).used = u := by rw [← hu]; rfl
  rw [write_zero rfl rfl e1 e2 hl]
  have e3 : (((fS r c fa PF.new).file 1).now.length : Int) = 0 := rfl
  have e4 : (fS r c fa PF.new).room = r := rfl
  rw [e3, e4]
  by_cases h : (u : Int) + (lb.length : Int) ≤ r
  · rw [if_neg (by omega), if_pos h]
    rfl
  · rw [if_pos (by omega), if_neg h]

theorem f_gone (r : Int) (c : Nat) (fa fb : PF) : (fS r c fa fb).gone [97] = (0, fT r (c + 1) fa fb) := by
  have e1 : dfind (fS r c fa fb).names [97] = some 0 := by kernel_rfl
  unfold PD.gone
  rw [e1, err_none rfl, after_none rfl]
  rfl

theorem f_writeG (r : Int) (c : Nat) (fa fb : PF) (lb : List UInt8) (hl : lb.length ≤ 300) (hv : fb.now.length = 0 ∨ fb.now.length = lb.length) : ∃ d', (fT r c fa fb).write [98] 0 lb = (if (lb.length : Int) ≤ r then 0 else 6, d') := by
  have e1 : dfind (fT r c fa fb).names [98] = some 1 := by kernel_rfl
  have e2 : (fT r c fa fb).used = fb.now.length := by show fb.now.length + 0 = _; omega
  rw [write_zero rfl rfl e1 e2 hl]
  have e3 : (((fT r c fa fb).file 1).now.length : Int) = fb.now.length := rfl
  have e4 : (fT r c fa fb).room = r := rfl
  rw [e3, e4]
  by_cases h : (lb.length : Int) ≤ r
  · rw [if_neg (by omega), if_pos h]
    exact ⟨_, rfl⟩
  · rw [if_pos (by omega), if_neg h]
    exact ⟨_, rfl⟩

def FOk (f : PF) : Prop := f.safe.length < 2000000 ∧ f.now.length < 2000000 ∧ f.loose.length < 10000 ∧ manyL f.loose < 900000000 ∧ WOk f.safe f.loose ∧ ∀ left, (kept f.loose left f.safe).length < 2000000
theorem fok_new : FOk PF.new := ⟨by decide, by decide, by decide, by decide, trivial, fun left => by simp [PF.new, kept]⟩
theorem fok_fw (l : List UInt8) (hl : l.length ≤ 300) : FOk (fw l) := by
  refine ⟨by simp [fw], by rw [fw_len]; omega, by simp [fw], by simp [fw, manyL]; omega, ⟨Nat.zero_le _, trivial⟩, fun left => ?_⟩
  simp only [fw, kept]
  split
  · simp
  · simp [wr]; omega
theorem fs_ch : ∀ c ∈ [(⟨0, [], [97], 0⟩ : PC), ⟨0, [], [98], 1⟩, ⟨2, [97], [], 0⟩], ChOk c := by
  intro c hc
  simp only [List.mem_cons, List.not_mem_nil, or_false] at hc
  rcases hc with rfl | rfl | rfl <;> exact ⟨by decide, by decide, by decide, by decide⟩
theorem f0_small (r : Int) : Small (PD.new r 0 false) := ⟨by simp [PD.new], by simp [PD.new], by simp [PD.new], by simp [PD.new], by simp [PD.new], by simp [PD.new], by simp [PD.new], by simp [PD.new], by simp [PD.new], by simp [PD.new], by simp [PD.new]⟩
theorem f1_small (r : Int) : Small (f1 r) := ⟨by simp [f1], by simp [f1], by simp [f1], by simp [f1], by simp [f1], by simp [f1], by simp [f1], fun c hc => fs_ch c (by simp [f1] at hc; simp [hc]), fun f hf => by simp [f1] at hf; subst hf; exact fok_new, by simp [f1], by simp [f1]⟩
theorem fS_small (r : Int) (c : Nat) (fa fb : PF) (hc : c < 100) (ha : FOk fa) (hb : FOk fb) : Small (fS r c fa fb) := ⟨by simp [fS], by simp [fS], by simp [fS], by simp [fS], by simp [fS]; omega, by simp [fS], by simp [fS], fun c hc => fs_ch c (by simp [fS] at hc; rcases hc with rfl | rfl <;> simp), fun f hf => by simp [fS] at hf; rcases hf with rfl | rfl; exact ha; exact hb, by simp [fS], by simp [fS]⟩
theorem fT_small (r : Int) (c : Nat) (fa fb : PF) (hc : c < 100) (ha : FOk fa) (hb : FOk fb) : Small (fT r c fa fb) := ⟨by simp [fT], by simp [fT], by simp [fT], by simp [fT], by simp [fT]; omega, by simp [fT], by simp [fT], fun c hc => fs_ch c hc, fun f hf => by simp [fT] at hf; rcases hf with rfl | rfl; exact ha; exact hb, by simp [fT], by simp [fT]⟩
end Go.Proofs.Ytkobjbjakgfhcaa
