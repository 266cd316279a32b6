/-
  More of what the statements on disks share: sizes checked by reckoning; a fall.
-/
import Derived.Test.YtkobjbjakgfhcaaDiskLaw
namespace Go.Proofs.Ytkobjbjakgfhcaa
open Go.RowKit

def chB (c : PC) : Bool := decide (c.kind ≤ 2) && decide (c.src.length < 1000) && decide (c.dst.length < 1000) && decide (c.file < 1000)
/-- What is asked of a disk's sizes but for its files' bytes. -/
def smB (d : PD) : Bool := decide (d.files.length < 1000) && decide (d.loose.length < 1000) && decide (d.names.length < 1000) && decide (d.safe.length < 1000) && decide (d.calls < 1000) &&
  d.names.all (fun x => decide (x.2 < d.files.length) && decide (x.1.length < 1000)) && d.safe.all (fun x => decide (x.2 < d.files.length) && decide (x.1.length < 1000)) && d.loose.all chB

theorem small_of {d : PD} (h : smB d = true) (hf : ∀ f ∈ d.files, FOk f) : Small d := by
  unfold smB at h
  simp only [Bool.and_eq_true, decide_eq_true_eq, List.all_eq_true] at h
  obtain ⟨⟨⟨⟨⟨⟨⟨h1, h2⟩, h3⟩, h4⟩, h5⟩, h6⟩, h7⟩, h8⟩ := h
  refine ⟨by omega, by omega, by omega, by omega, by omega, fun x hx => (h6 x hx).1, fun x hx => (h7 x hx).1, fun c hc => ?_, hf, fun x hx => (h6 x hx).2, fun x hx => (h7 x hx).2⟩
  have := h8 c hc
  unfold chB at this
  simp only [Bool.and_eq_true, decide_eq_true_eq] at this
  exact ⟨this.1.1.1, by omega, by omega, by omega⟩

theorem fok_fallen {f : PF} (h : FOk f) (n : Int) : FOk (f.fallen n) := by
  have hl := h.2.2.2.2.2 (rest n (manyL f.loose))
  refine ⟨hl, hl, by simp [PF.fallen], by simp [PF.fallen, manyL], trivial, fun left => ?_⟩
  show (kept f.loose (rest n (manyL f.loose)) f.safe).length < 2000000
  exact hl

theorem fallF_ok (keep : List Int) (l : DB) (fs : List PF) (h : ∀ f ∈ fs, FOk f) : ∀ k, (∀ f ∈ fallF keep l fs k, FOk f) ∧ (fallF keep l fs k).length = fs.length
  | 0 => ⟨h, rfl⟩
  | k + 1 => by
    obtain ⟨h1, h2⟩ := fallF_ok keep l fs h k
    unfold fallF
    cases l[k]? with
    | none => exact ⟨h1, h2⟩
    | some x =>
      refine ⟨fun f hf => ?_, by simpa using h2⟩
      rcases List.mem_or_eq_of_mem_set hf with hm | rfl
      · exact h1 f hm
      · refine fok_fallen ?_ _
        by_cases hlt : x.2 < (fallF keep l fs k).length
        · rw [List.getD_eq_getElem?_getD, List.getElem?_eq_getElem hlt]
          exact h1 _ (List.getElem_mem hlt)
        · rw [List.getD_eq_getElem?_getD, List.getElem?_eq_none (by omega)]
          exact fok_new

theorem small_fell {d : PD} (h : Small d) (keep : List Int) (k : Nat) : Small (d.fell keep k) := by
  obtain ⟨h1, h2⟩ := fallF_ok keep d.names d.files h.fl k
  have hl : (d.fell keep k).files.length = d.files.length := h2
  exact ⟨by rw [hl]; exact h.files, h.loose, h.names, h.safe, h.calls, fun x hx => by rw [hl]; exact h.idn x hx, fun x hx => by rw [hl]; exact h.ids x hx, h.ch, h1, h.nml, h.sml⟩

theorem redone_min (d : PD) (k : Nat) : d.redone k = d.redone (min k d.loose.length) := by
  unfold PD.redone
  by_cases h : k ≤ d.loose.length
  · rw [Nat.min_eq_left h]
  · rw [Nat.min_eq_right (by omega), List.take_of_length_le (by omega), List.take_length]

theorem redone_all {d : PD} {n : Nat} (hn : d.loose.length = n) {Q : PD → Prop} (h : ∀ k, k ≤ n → Q (d.redone k)) : ∀ k, Q (d.redone k) := fun k => by
  rw [redone_min]
  exact h _ (by omega)

theorem on_fallQ {W w : World} {p : Nat} {d : PD} {vh : Value} {lh : List UInt8} (h : OnR W w p d vh lh) (w2 : World) (hb : Below w.heap.size w w2) (room crash names : Int) (done : Bool) (kv : Value) (keep : List Int) (r : Nat) (hr : rest names d.loose.length = r) (hnn : (Lit.int .i64 names).wf = true) (hkw : ∀ v ∈ keep, (Lit.int .i64 v).wf = true) (hkl : keep.length < 1000000)
    (hkv : (kv = .slice none 0 0 ∧ keep = []) ∨ ∃ kb cap, kv = .slice (some ⟨kb, 0, none⟩) keep.length cap ∧ 0 < keep.length ∧ w.heap.size ≤ kb ∧ kb < w2.heap.size ∧ ∀ (i : Nat) (v : Int), keep[i]? = some v → w2.cell? ⟨kb, i, none⟩ = some (.int .i64 v))
    (hsm : ∀ k, k ≤ d.loose.length → Small (d.redone k)) (hnd : ((d.redone r).names.map (·.2)).Nodup) (d' : PD) (hd' : (((d.redone r).fell keep (d.redone r).names.length).settled).begun room crash done = d') :
    Calls Try.prog 23 #[.pointer (some ⟨p, 0, none⟩), .agg #[.int .i64 room, .int .i64 crash, .bool done, kv, .int .i64 names]] w2 fun e w' => e = .returned (.tuple #[]) ∧ OnR W w' p d' vh lh := by
  subst hr
  have hall := redone_all rfl hsm
  exact on_fallR h w2 hb room crash names done kv keep hnn hkw hkl hkv hall (fun k => small_fell (hall _) keep k) hnd d' hd'

/-- A disk that does not crash. -/
def dk (R : Int) (c : Nat) (fs : List PF) (nm sf : DB) (ls : List PC) : PD := ⟨R, 0, false, c, false, fs, nm, sf, ls⟩

theorem dk_make (R : Int) (c : Nat) (fs : List PF) (nm sf : DB) (ls : List PC) (n : List UInt8) (hn : nmOk n = true) (hf : dfind nm n = none) : (dk R c fs nm sf ls).make n = (0, dk R (c + 1) (fs ++ [PF.new]) (ren nm ⟨0, [], n, fs.length⟩) sf (ls ++ [⟨0, [], n, fs.length⟩])) := by
  unfold PD.make
  rw [show (dk R c fs nm sf ls).down = false from rfl, hn, show dfind (dk R c fs nm sf ls).names n = none from hf, err_none rfl, after_none rfl]
  rfl
theorem dk_safe (R : Int) (c : Nat) (fs : List PF) (nm sf : DB) (ls : List PC) (n : List UInt8) (id : Nat) (hf : dfind nm n = some id) : (dk R c fs nm sf ls).makeSafe n = (0, dk R (c + 1) (fs.set id (fs.getD id PF.new).safed) nm sf ls) := by
  unfold PD.makeSafe
  rw [show (dk R c fs nm sf ls).down = false from rfl, show dfind (dk R c fs nm sf ls).names n = some id from hf, err_none rfl, if_neg (by simp)]
  dsimp only
  rw [after_none rfl]
  rfl
theorem dk_names (R : Int) (c : Nat) (fs : List PF) (nm sf : DB) (ls : List PC) : (dk R c fs nm sf ls).nameSafe = (0, dk R (c + 1) (nm.map fun x => fs.getD x.2 PF.new) (numb nm) (numb nm) []) := by
  unfold PD.nameSafe
  rw [show (dk R c fs nm sf ls).down = false from rfl, err_none rfl, after_none rfl]
  rfl
theorem dk_move (R : Int) (c : Nat) (fs : List PF) (nm sf : DB) (ls : List PC) (n m : List UInt8) (id : Nat) (hm : nmOk m = true) (hf : dfind nm n = some id) : (dk R c fs nm sf ls).move n m = (0, dk R (c + 1) fs (ren nm ⟨1, n, m, 0⟩) sf (ls ++ [⟨1, n, m, 0⟩])) := by
  unfold PD.move
  rw [show (dk R c fs nm sf ls).down = false from rfl, hm, show dfind (dk R c fs nm sf ls).names n = some id from hf, err_none rfl, if_neg (by simp), if_neg (by simp)]
  dsimp only
  rw [after_none rfl]
  rfl
theorem dk_write (R : Int) (c : Nat) (fs : List PF) (nm sf : DB) (ls : List PC) (n : List UInt8) (id u a : Nat) (l : List UInt8) (hf : dfind nm n = some id) (hu : (dk R c fs nm sf ls).used = u) (ha : a ≤ (fs.getD id PF.new).now.length) (hl : a + l.length ≤ 1048576) (hr : (u : Int) + (l.length : Int) ≤ R) :
    (dk R c fs nm sf ls).write n (a : Int) l = (0, dk R (c + 1) (fs.set id ((fs.getD id PF.new).wrote a l)) nm sf ls) := by
  rw [write_in (d := dk R c fs nm sf ls) (id := id) (u := u) rfl rfl hf hu ha hl (by
    have : ((dk R c fs nm sf ls).file id).now.length = (fs.getD id PF.new).now.length := rfl
    show (u : Int) + max 0 ((a : Int) + (l.length : Int) - (((dk R c fs nm sf ls).file id).now.length : Int)) ≤ R
    omega)]
  rfl
theorem dk_read (R : Int) (c : Nat) (fs : List PF) (nm sf : DB) (ls : List PC) (n : List UInt8) (id a k : Nat) (hf : dfind nm n = some id) (ha : a ≤ (fs.getD id PF.new).now.length) : (dk R c fs nm sf ls).read n (a : Int) (k : Int) = ((((fs.getD id PF.new).now.drop a).take k), 0) := by
  unfold PD.read
  rw [show (dk R c fs nm sf ls).down = false from rfl, show dfind (dk R c fs nm sf ls).names n = some id from hf]
  have e : (dk R c fs nm sf ls).file id = fs.getD id PF.new := rfl
  rw [if_neg (by simp)]
  dsimp only
  rw [e, if_neg (by omega)]
  rfl
theorem dk_size (R : Int) (c : Nat) (fs : List PF) (nm sf : DB) (ls : List PC) (n : List UInt8) (id : Nat) (hf : dfind nm n = some id) : (dk R c fs nm sf ls).size n = ((fs.getD id PF.new).now.length, true) := by
  unfold PD.size
  rw [show dfind (dk R c fs nm sf ls).names n = some id from hf]
  rfl
theorem dk_size_none (R : Int) (c : Nat) (fs : List PF) (nm sf : DB) (ls : List PC) (n : List UInt8) (hf : dfind nm n = none) : (dk R c fs nm sf ls).size n = (0, false) := by
  unfold PD.size
  rw [show dfind (dk R c fs nm sf ls).names n = none from hf]

/-- A file whose bytes are safe. -/
def fsafe (l : List UInt8) : PF := ⟨l, l, []⟩
theorem safed_fw (l : List UInt8) : (fw l).safed = fsafe l := by
  have hm : manyL (fw l).loose = l.length := by simp [fw, manyL]
  have hw : wr [] 0 l = l := wr_zero l
  unfold PF.safed
  rw [hm]
  show PF.mk (kept [(0, l)] l.length []) (wr [] 0 l) [] = PF.mk l l []
  rw [hw]
  congr 1
  by_cases h : l.length = 0
  · rw [h, kept_zero, List.eq_nil_of_length_eq_zero h]
  · rw [kept_cons _ _ _ _ h, List.take_length, hw]
    simp [kept]
theorem fok_fsafe (l : List UInt8) (h : l.length < 1000000) : FOk (fsafe l) := fok_of (by simp [fsafe, manyL]; exact h) h (by simp [fsafe]) trivial
theorem new_wrote (l : List UInt8) : PF.new.wrote 0 l = fw l := rfl
theorem fok_fw2 (l : List UInt8) (hl : l.length < 900000) : FOk (fw l) := fok_of (by simp [fw, manyL]; omega) (by rw [fw_len]; omega) (by simp [fw]) ⟨Nat.zero_le _, trivial⟩
theorem fall_fsafe (l : List UInt8) (n : Int) : (fsafe l).fallen n = fsafe l := rfl
end Go.Proofs.Ytkobjbjakgfhcaa
