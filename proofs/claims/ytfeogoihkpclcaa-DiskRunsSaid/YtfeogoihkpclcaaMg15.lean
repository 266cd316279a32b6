import Derived.Test.YtfeogoihkpclcaaMg14
import Derived.OpenShut

/-
  What the statements on disks share: sizes of files with few writes, calls of a disk that does not crash.
-/
namespace Go.Proofs.Ytfeogoihkpclcaa
open Go.RowKit

theorem kept_len : ∀ (l : List (Nat × List UInt8)) (left : Nat) (b : List UInt8), WOk b l → (kept l left b).length ≤ b.length + manyL l
  | [], _, b, _ => by simp [kept]
  | p :: r, left, b, h => by
    obtain ⟨h1, h2⟩ := h
    by_cases h0 : left = 0
    · rw [h0, kept_zero]; omega
    · rw [kept_cons p r left b h0]
      have key : ∀ q : List UInt8, q.length ≤ p.2.length → (wr b p.1 q).length ≤ b.length + p.2.length := by
        intro q hq
        rw [wr_length b q p.1 h1]; omega
      have hm : manyL (p :: r) = p.2.length + manyL r := by simp [manyL]
      by_cases hl : p.2.length ≤ left
      · rw [List.take_of_length_le hl]
        have := kept_len r (left - p.2.length) (wr b p.1 p.2) h2
        have := key p.2 (Nat.le_refl _)
        omega
      · rw [show left - p.2.length = 0 by omega, kept_zero]
        have := key (p.2.take left) (by rw [List.length_take]; omega)
        omega

theorem fok_of {f : PF} (h1 : f.safe.length + manyL f.loose < 1000000) (h2 : f.now.length < 1000000) (h3 : f.loose.length < 10000) (h4 : WOk f.safe f.loose) : FOk f :=
  ⟨by omega, by omega, h3, by omega, h4, fun left => by have := kept_len f.loose left f.safe h4; omega⟩

theorem wok_append : ∀ (l : List (Nat × List UInt8)) (b : List UInt8) (p : Nat × List UInt8), WOk b l → p.1 ≤ (l.foldl (fun b p => wr b p.1 p.2) b).length → WOk b (l ++ [p])
  | [], _, _, _, h => ⟨h, trivial⟩
  | _ :: r, _, p, h, hp => ⟨h.1, wok_append r _ p h.2 hp⟩

/-- A write from a place on, of a disk that is up and does not crash. -/
theorem write_in {d : PD} {n : List UInt8} {id u : Nat} {a : Nat} {l : List UInt8} (hd : d.down = false) (hc : d.crash = 0) (hf : dfind d.names n = some id) (hu : d.used = u) (ha : a ≤ (d.file id).now.length) (hl : a + l.length ≤ 1048576) (hr : (u : Int) + max 0 ((a : Int) + (l.length : Int) - ((d.file id).now.length : Int)) ≤ d.room) :
    d.write n (a : Int) l = (0, { d with calls := d.calls + 1, down := false, files := d.files.set id ((d.file id).wrote a l) }) := by
  unfold PD.write
  rw [hf, hu, hd, if_neg (by simp)]
  dsimp only
  rw [if_neg (by omega), if_neg (by omega), if_neg (by omega), err_none hc, after_none hc]
  rfl
theorem write_out {d : PD} {n : List UInt8} {id : Nat} {a : Int} {l : List UInt8} (hd : d.down = false) (hf : dfind d.names n = some id) (ha : a < 0 ∨ ((d.file id).now.length : Int) < a) : d.write n a l = (1, d) := by
  unfold PD.write
  rw [hf, hd, if_neg (by simp)]
  dsimp only
  rw [if_pos ha]

theorem on_write_new {W w w2 : World} {p : Nat} {d : PD} (h : On W w p d) (hb : Below w.heap.size w w2) (hsm : Small d) (hcl : d.calls + 1 < 10000) (s : ByteArray) (hs : s.size ≤ maxLen) (a : Int) (v : Value) (l : List UInt8) (hrd : RdB w2 v l) (hll : l.length < 1000000000000) (ov : l ≠ [] → ∀ k, v.ownBlock = some k → w.heap.size ≤ k ∨ k < W.heap.size) (r : Nat) (d' : PD) (he : d.write s.data.toList a l = (r, d')) :
    Calls Try.prog 18 #[.pointer (some ⟨p, 0, none⟩), .string s, .int .i64 a, v] w2 fun e w' => e = .returned (.int .i64 (r : Int)) ∧ On W w' p d' := by
  obtain ⟨g, h1, h2, h3⟩ := h
  have hm := write_at (h1.below hb) hsm hcl s hs a v l hrd hll ?_
  · rw [he] at hm
    exact on_wrote (h2.trans (hb.mono h2.size)) h3 hm
  · intro hne k e
    cases ho : g.o k with
    | out => rfl
    | _ =>
      have hF : g.F k := by unfold Gh.F; rw [ho]; simp
      have := h1.olt k hF
      have := h3 k hF
      rcases ov hne k e with h | h <;> omega

/-- One file 'x'. -/
def x1 (R : Int) (c : Nat) (f : PF) (sf : DB) (ls : List PC) : PD := ⟨R, 0, false, c, false, [f], [([120], 0)], sf, ls⟩
def mkx : PC := ⟨0, [], [120], 0⟩
def sfx (b : Bool) : DB := if b then [([120], 0)] else []
def lsx (b : Bool) : List PC := if b then [mkx] else []
theorem mkx_ok : ChOk mkx := ⟨by decide, by decide, by decide, by decide⟩
theorem x1_small (R : Int) (c : Nat) (f : PF) (b1 b2 : Bool) (hc : c < 100) (hf : FOk f) : Small (x1 R c f (sfx b1) (lsx b2)) := by
  refine ⟨by simp [x1], by cases b2 <;> simp [x1, lsx], by simp [x1], by cases b1 <;> simp [x1, sfx], by simp [x1]; omega, by simp [x1], by cases b1 <;> simp [x1, sfx], ?_, fun g hg => by simp [x1] at hg; subst hg; exact hf, by simp [x1], by cases b1 <;> simp [x1, sfx]⟩
  intro c hc
  cases b2
  · simp [x1, lsx] at hc
  · simp [x1, lsx] at hc; subst hc; exact mkx_ok
theorem x1_make (R : Int) : (PD.new R 0 false).make [120] = (0, x1 R 1 PF.new (sfx false) (lsx true)) := by kernel_rfl
theorem x1_used (R : Int) (c : Nat) (f : PF) (sf : DB) (ls : List PC) : (x1 R c f sf ls).used = f.now.length := by show f.now.length + 0 = _; omega
theorem x1_find (R : Int) (c : Nat) (f : PF) (sf : DB) (ls : List PC) : dfind (x1 R c f sf ls).names [120] = some 0 := by kernel_rfl
theorem x1_write (R : Int) (c : Nat) (f : PF) (sf : DB) (ls : List PC) (a : Nat) (l : List UInt8) (ha : a ≤ f.now.length) (hl : a + l.length ≤ 1048576) (hr : (f.now.length : Int) + (l.length : Int) ≤ R) : (x1 R c f sf ls).write [120] (a : Int) l = (0, x1 R (c + 1) (f.wrote a l) sf ls) := by
  rw [write_in (id := 0) (u := f.now.length) rfl rfl (x1_find ..) (x1_used ..) ha hl (by show (f.now.length : Int) + max 0 ((a : Int) + (l.length : Int) - (f.now.length : Int)) ≤ R; omega)]
  rfl
theorem x1_read (R : Int) (c : Nat) (f : PF) (sf : DB) (ls : List PC) (a n : Int) : (x1 R c f sf ls).read [120] a n = if a < 0 ∨ (f.now.length : Int) < a ∨ n < 0 then ([], 1) else ((f.now.drop a.toNat).take n.toNat, 0) := by
  unfold PD.read
  rw [x1_find]
  rfl
theorem x1_size (R : Int) (c : Nat) (f : PF) (sf : DB) (ls : List PC) : (x1 R c f sf ls).size [120] = (f.now.length, true) := by
  unfold PD.size
  rw [x1_find]
  rfl
theorem rd_const1 (w : World) (c : UInt8) : RdB (w.alloc (.cells #[bv c] 5 (1, 2))) (.slice (some ⟨w.heap.size, 0, none⟩) 1 1) [c] :=
  ⟨_, 1, rfl, Nat.le_refl _, by unfold maxLen; omega, rfl, .inr ⟨w.heap.size, 0, rfl, by simp, fun j u hj => by rw [Nat.zero_add, World.cell?_alloc_mark]; simpa using hj⟩⟩
end Go.Proofs.Ytfeogoihkpclcaa

/-
  More of what the statements on disks share: sizes checked by reckoning; a fall.
-/
namespace Go.Proofs.Ytfeogoihkpclcaa
open Go.RowKit

def chB (c : PC) : Bool := decide (c.kind ≤ 2) && decide (c.src.length < 1000) && decide (c.dst.length < 1000) && decide (c.file < 1000)
/-- What is asked of a disk's sizes but for its files' bytes. -/
def smB (d : PD) : Bool := decide (d.files.length < 1000) && decide (d.loose.length < 1000) && decide (d.names.length < 1000) && decide (d.safe.length < 1000) && decide (d.calls < 1000) &&
  d.names.all (fun x => decide (x.2 < d.files.length) && decide (x.1.length < 1000)) && d.safe.all (fun x => decide (x.2 < d.files.length) && decide (x.1.length < 1000)) && d.loose.all chB

theorem small_of {d : PD} (h : smB d = true) (hf : ∀ f ∈ d.files, FOk f) : Small d := by
  unfold smB at h
  simp only [Bool.and_eq_true, decide_eq_true_eq, List.all_eq_true] at h
  obtain ⟨⟨⟨⟨⟨⟨⟨h1, h2⟩, h3⟩, h4⟩, h5⟩, h6⟩, h7⟩, h8⟩ := h
  refine ⟨by omega, by omega, by omega, by omega, by omega, fun x hx => (h6 x hx).1, fun x hx => (h7 x hx).1, fun c hc => ?_, hf, fun x hx => (h6 x hx).2, fun x hx => (h7 x hx).2⟩
  have := h8 c hc
  unfold chB at this
  simp only [Bool.and_eq_true, decide_eq_true_eq] at this
  exact ⟨this.1.1.1, by omega, by omega, by omega⟩

theorem fok_fallen {f : PF} (h : FOk f) (n : Int) : FOk (f.fallen n) := by
  have hl := h.2.2.2.2.2 (rest n (manyL f.loose))
  refine ⟨hl, hl, by simp [PF.fallen], by simp [PF.fallen, manyL], trivial, fun left => ?_⟩
  show (kept f.loose (rest n (manyL f.loose)) f.safe).length < 2000000
  exact hl

theorem fallF_ok (keep : List Int) (l : DB) (fs : List PF) (h : ∀ f ∈ fs, FOk f) : ∀ k, (∀ f ∈ fallF keep l fs k, FOk f) ∧ (fallF keep l fs k).length = fs.length
  | 0 => ⟨h, rfl⟩
  | k + 1 => by
    obtain ⟨h1, h2⟩ := fallF_ok keep l fs h k
    unfold fallF
    cases l[k]? with
    | none => exact ⟨h1, h2⟩
    | some x =>
      refine ⟨fun f hf => ?_, by simpa using h2⟩
      rcases List.mem_or_eq_of_mem_set hf with hm | rfl
      · exact h1 f hm
      · refine fok_fallen ?_ _
        by_cases hlt : x.2 < (fallF keep l fs k).length
        · rw [List.getD_eq_getElem?_getD, List.getElem?_eq_getElem hlt]
          exact h1 _ (List.getElem_mem hlt)
        · rw [List.getD_eq_getElem?_getD, List.getElem?_eq_none (by omega)]
          exact fok_new

theorem small_fell {d : PD} (h : Small d) (keep : List Int) (k : Nat) : Small (d.fell keep k) := by
  obtain ⟨h1, h2⟩ := fallF_ok keep d.names d.files h.fl k
  have hl : (d.fell keep k).files.length = d.files.length := h2
  exact ⟨by rw [hl]; exact h.files, h.loose, h.names, h.safe, h.calls, fun x hx => by rw [hl]; exact h.idn x hx, fun x hx => by rw [hl]; exact h.ids x hx, h.ch, h1, h.nml, h.sml⟩

theorem redone_min (d : PD) (k : Nat) : d.redone k = d.redone (min k d.loose.length) := by
  unfold PD.redone
  by_cases h : k ≤ d.loose.length
  · rw [Nat.min_eq_left h]
  · rw [Nat.min_eq_right (by omega), List.take_of_length_le (by omega), List.take_length]

theorem redone_all {d : PD} {n : Nat} (hn : d.loose.length = n) {Q : PD → Prop} (h : ∀ k, k ≤ n → Q (d.redone k)) : ∀ k, Q (d.redone k) := fun k => by
  rw [redone_min]
  exact h _ (by omega)

theorem on_fallQ {W w : World} {p : Nat} {d : PD} {vh : Value} {lh : List UInt8} (h : OnR W w p d vh lh) (w2 : World) (hb : Below w.heap.size w w2) (room crash names : Int) (done : Bool) (kv : Value) (keep : List Int) (r : Nat) (hr : rest names d.loose.length = r) (hnn : (Lit.int .i64 names).wf = true) (hkw : ∀ v ∈ keep, (Lit.int .i64 v).wf = true) (hkl : keep.length < 1000000)
    (hkv : (kv = .slice none 0 0 ∧ keep = []) ∨ ∃ kb cap, kv = .slice (some ⟨kb, 0, none⟩) keep.length cap ∧ 0 < keep.length ∧ w.heap.size ≤ kb ∧ kb < w2.heap.size ∧ ∀ (i : Nat) (v : Int), keep[i]? = some v → w2.cell? ⟨kb, i, none⟩ = some (.int .i64 v))
    (hsm : ∀ k, k ≤ d.loose.length → Small (d.redone k)) (hnd : ((d.redone r).names.map (·.2)).Nodup) (d' : PD) (hd' : (((d.redone r).fell keep (d.redone r).names.length).settled).begun room crash done = d') :
    Calls Try.prog 20 #[.pointer (some ⟨p, 0, none⟩), .agg #[.int .i64 room, .int .i64 crash, .bool done, kv, .int .i64 names]] w2 fun e w' => e = .returned (.tuple #[]) ∧ OnR W w' p d' vh lh := by
  subst hr
  have hall := redone_all rfl hsm
  exact on_fallR h w2 hb room crash names done kv keep hnn hkw hkl hkv hall (fun k => small_fell (hall _) keep k) hnd d' hd'

/-- A disk that does not crash. -/
def dk (R : Int) (c : Nat) (fs : List PF) (nm sf : DB) (ls : List PC) : PD := ⟨R, 0, false, c, false, fs, nm, sf, ls⟩

theorem dk_make (R : Int) (c : Nat) (fs : List PF) (nm sf : DB) (ls : List PC) (n : List UInt8) (hn : nmOk n = true) (hf : dfind nm n = none) : (dk R c fs nm sf ls).make n = (0, dk R (c + 1) (fs ++ [PF.new]) (ren nm ⟨0, [], n, fs.length⟩) sf (ls ++ [⟨0, [], n, fs.length⟩])) := by
  unfold PD.make
  rw [show (dk R c fs nm sf ls).down = false from rfl, hn, show dfind (dk R c fs nm sf ls).names n = none from hf, err_none rfl, after_none rfl]
  rfl
theorem dk_safe (R : Int) (c : Nat) (fs : List PF) (nm sf : DB) (ls : List PC) (n : List UInt8) (id : Nat) (hf : dfind nm n = some id) : (dk R c fs nm sf ls).makeSafe n = (0, dk R (c + 1) (fs.set id (fs.getD id PF.new).safed) nm sf ls) := by
  unfold PD.makeSafe
  rw [show (dk R c fs nm sf ls).down = false from rfl, show dfind (dk R c fs nm sf ls).names n = some id from hf, err_none rfl, if_neg (by simp)]
  dsimp only
  rw [after_none rfl]
  rfl
theorem dk_names (R : Int) (c : Nat) (fs : List PF) (nm sf : DB) (ls : List PC) : (dk R c fs nm sf ls).nameSafe = (0, dk R (c + 1) (nm.map fun x => fs.getD x.2 PF.new) (numb nm) (numb nm) []) := by
  unfold PD.nameSafe
  rw [show (dk R c fs nm sf ls).down = false from rfl, err_none rfl, after_none rfl]
  rfl
theorem dk_move (R : Int) (c : Nat) (fs : List PF) (nm sf : DB) (ls : List PC) (n m : List UInt8) (id : Nat) (hm : nmOk m = true) (hf : dfind nm n = some id) : (dk R c fs nm sf ls).move n m = (0, dk R (c + 1) fs (ren nm ⟨1, n, m, 0⟩) sf (ls ++ [⟨1, n, m, 0⟩])) := by
  unfold PD.move
  rw [show (dk R c fs nm sf ls).down = false from rfl, hm, show dfind (dk R c fs nm sf ls).names n = some id from hf, err_none rfl, if_neg (by simp), if_neg (by simp)]
  dsimp only
  rw [after_none rfl]
  rfl
theorem dk_write (R : Int) (c : Nat) (fs : List PF) (nm sf : DB) (ls : List PC) (n : List UInt8) (id u a : Nat) (l : List UInt8) (hf : dfind nm n = some id) (hu : (dk R c fs nm sf ls).used = u) (ha : a ≤ (fs.getD id PF.new).now.length) (hl : a + l.length ≤ 1048576) (hr : (u : Int) + (l.length : Int) ≤ R) :
    (dk R c fs nm sf ls).write n (a : Int) l = (0, dk R (c + 1) (fs.set id ((fs.getD id PF.new).wrote a l)) nm sf ls) := by
  rw [write_in (d := dk R c fs nm sf ls) (id := id) (u := u) rfl rfl hf hu ha hl (by
    have : ((dk R c fs nm sf ls).file id).now.length = (fs.getD id PF.new).now.length := rfl
    show (u : Int) + max 0 ((a : Int) + (l.length : Int) - (((dk R c fs nm sf ls).file id).now.length : Int)) ≤ R
    omega)]
  rfl
theorem dk_read (R : Int) (c : Nat) (fs : List PF) (nm sf : DB) (ls : List PC) (n : List UInt8) (id a k : Nat) (hf : dfind nm n = some id) (ha : a ≤ (fs.getD id PF.new).now.length) : (dk R c fs nm sf ls).read n (a : Int) (k : Int) = ((((fs.getD id PF.new).now.drop a).take k), 0) := by
  unfold PD.read
  rw [show (dk R c fs nm sf ls).down = false from rfl, show dfind (dk R c fs nm sf ls).names n = some id from hf]
  have e : (dk R c fs nm sf ls).file id = fs.getD id PF.new := rfl
  rw [if_neg (by simp)]
  dsimp only
  rw [e, if_neg (by omega)]
  rfl
theorem dk_size (R : Int) (c : Nat) (fs : List PF) (nm sf : DB) (ls : List PC) (n : List UInt8) (id : Nat) (hf : dfind nm n = some id) : (dk R c fs nm sf ls).size n = ((fs.getD id PF.new).now.length, true) := by
  unfold PD.size
  rw [show dfind (dk R c fs nm sf ls).names n = some id from hf]
  rfl
theorem dk_size_none (R : Int) (c : Nat) (fs : List PF) (nm sf : DB) (ls : List PC) (n : List UInt8) (hf : dfind nm n = none) : (dk R c fs nm sf ls).size n = (0, false) := by
  unfold PD.size
  rw [show dfind (dk R c fs nm sf ls).names n = none from hf]

/-- A file whose bytes are safe. -/
def fsafe (l : List UInt8) : PF := ⟨l, l, []⟩
theorem safed_fw (l : List UInt8) : (fw l).safed = fsafe l := by
  have hm : manyL (fw l).loose = l.length := by simp [fw, manyL]
  have hw : wr [] 0 l = l := wr_zero l
  unfold PF.safed
  rw [hm]
  show PF.mk (kept [(0, l)] l.length []) (wr [] 0 l) [] = PF.mk l l []
  rw [hw]
  congr 1
  by_cases h : l.length = 0
  · rw [h, kept_zero, List.eq_nil_of_length_eq_zero h]
  · rw [kept_cons _ _ _ _ h, List.take_length, hw]
    simp [kept]
theorem fok_fsafe (l : List UInt8) (h : l.length < 1000000) : FOk (fsafe l) := fok_of (by simp [fsafe, manyL]; exact h) h (by simp [fsafe]) trivial
theorem new_wrote (l : List UInt8) : PF.new.wrote 0 l = fw l := rfl
theorem fok_fw2 (l : List UInt8) (hl : l.length < 900000) : FOk (fw l) := fok_of (by simp [fw, manyL]; omega) (by rw [fw_len]; omega) (by simp [fw]) ⟨Nat.zero_le _, trivial⟩
theorem fall_fsafe (l : List UInt8) (n : Int) : (fsafe l).fallen n = fsafe l := rfl
end Go.Proofs.Ytfeogoihkpclcaa

/-
  The program's disk and the document's as plain data, side by side: names with their files' numbers turned.
-/
namespace Go.Proofs.Ytfeogoihkpclcaa

/-- Names with other numbers. -/
def mp (s : Nat → Nat) (l : DB) : DB := l.map fun x => (x.1, s x.2)
/-- A change of names, as the document keeps it. -/
def cv (s : Nat → Nat) (c : PC) : DC := if c.kind = 0 then ⟨[], c.dst, s c.file⟩ else if c.kind = 1 then ⟨c.src, c.dst, 0⟩ else ⟨c.src, [], 0⟩

theorem mp_find (s : Nat → Nat) (l : DB) (n : List UInt8) : dfind (mp s l) n = (dfind l n).map s := by
  unfold dfind mp
  rw [List.find?_map, Option.map_map, Option.map_map]
  rfl
theorem mp_without (s : Nat → Nat) (l : DB) (n : List UInt8) : dwithout (mp s l) n = mp s (dwithout l n) := by
  unfold dwithout mp
  rw [List.filter_map]
  rfl
theorem mp_put (s : Nat → Nat) : ∀ (l : DB) (n : List UInt8) (id : Nat), dput (mp s l) n (s id) = mp s (dput l n id)
  | [], _, _ => rfl
  | x :: r, n, id => by
    show dput ((x.1, s x.2) :: mp s r) n (s id) = _
    unfold dput
    have ha : above (x.1, s x.2) n = above x n := rfl
    rw [ha, mp_put s r n id]
    split <;> rfl
theorem mp_with (s : Nat → Nat) (l : DB) (n : List UInt8) (id : Nat) : dwith (mp s l) n (s id) = mp s (dwith l n id) := by
  unfold dwith
  rw [mp_without, mp_put]
theorem mp_congr {s t : Nat → Nat} {l : DB} (h : ∀ x ∈ l, s x.2 = t x.2) : mp s l = mp t l := List.map_congr_left fun x hx => by rw [h x hx]

/-- What a change of names must have. -/
structure COk (c : PC) (n : Nat) : Prop where
  kind : c.kind ≤ 2
  made : c.kind = 0 → c.dst ≠ [] ∧ c.dst.length ≤ 40 ∧ c.file < n ∧ c.src = []
  moved : c.kind = 1 → c.src ≠ [] ∧ c.dst ≠ [] ∧ c.dst.length ≤ 40 ∧ c.src.length ≤ 40 ∧ c.file = 0
  gone : c.kind = 2 → c.src ≠ [] ∧ c.src.length ≤ 40 ∧ c.dst = [] ∧ c.file = 0

theorem before_above (x : List UInt8 × Nat) (n : List UInt8) : above x n = bytesBefore n x.1 := (bytesBefore_cmpL n x.1).symm

theorem before_irr : ∀ a : List UInt8, bytesBefore a a = false
  | [] => rfl
  | x :: r => by
    unfold bytesBefore
    have := before_irr r
    simp [UInt8.lt_irrefl, this]

/-- Put back where it was. -/
theorem with_same {l : DB} (hs : Srt l) {n : List UInt8} {id : Nat} (h : dfind l n = some id) : dwith (dwithout l n) n id = l := by
  have hw : dwithout (dwithout l n) n = dwithout l n := by
    unfold dwithout
    rw [List.filter_filter]
    congr 1
    funext x
    cases (x.1 == n) <;> rfl
  unfold dwith
  rw [hw]
  clear hw
  induction l with
  | nil => cases h
  | cons x r ih =>
    have hp := List.pairwise_cons.1 hs
    by_cases hx : (x.1 == n) = true
    · have hxn : x.1 = n := by simpa using hx
      have hid : x.2 = id := by
        unfold dfind at h
        rw [List.find?_cons_of_pos (p := fun y : List UInt8 × Nat => y.1 == n) hx] at h
        simpa using h
      have hr : dwithout r n = r := by
        unfold dwithout
        refine List.filter_eq_self.2 fun y hy => ?_
        have hb := hp.1 y hy
        by_cases hyn : y.1 = n
        · rw [hxn, hyn, before_irr] at hb; cases hb
        · simpa using hyn
      have h0 : dwithout (x :: r) n = r := by
        unfold dwithout at hr ⊢
        rw [List.filter_cons_of_neg (by simp [hx])]
        exact hr
      rw [h0]
      have hxe : x = (n, id) := by rw [← hxn, ← hid]
      cases r with
      | nil => rw [hxe]; rfl
      | cons y t =>
        have hb := hp.1 y (by simp)
        unfold dput
        rw [if_pos (by rw [before_above, ← hxn]; exact hb), hxe]
    · have hf : dfind r n = some id := by
        unfold dfind at h ⊢
        rw [List.find?_cons_of_neg (p := fun y : List UInt8 × Nat => y.1 == n) (by simpa using hx)] at h
        exact h
      have h0 : dwithout (x :: r) n = x :: dwithout r n := by
        unfold dwithout
        rw [List.filter_cons_of_pos (by simpa using hx)]
      rw [h0]
      have hin : (n, id) ∈ r := dfind_in hf
      have hb := hp.1 _ hin
      have hna : above x n = false := by
        rw [before_above]
        exact before_not hb
      unfold dput
      rw [hna, if_neg (by simp), ih hp.2 hf]

/-- A change, done on both sides. -/
theorem cv_done (s : Nat → Nat) {l : DB} (hs : Srt l) {c : PC} {n : Nat} (hc : COk c n) : dchanged (mp s l) (cv s c) = mp s (ren l c) := by
  unfold cv ren dchanged
  by_cases h0 : c.kind = 0
  · rw [if_pos h0, if_pos h0]
    simp only [if_true]
    exact mp_with s l c.dst c.file
  by_cases h1 : c.kind = 1
  · obtain ⟨m1, m2, _⟩ := hc.moved h1
    rw [if_neg h0, if_pos h1, if_neg h0, if_pos h1]
    simp only
    rw [if_neg m1, mp_find]
    cases hf : dfind l c.src with
    | none => rfl
    | some id =>
      simp only [Option.map_some]
      by_cases he : c.src = c.dst
      · rw [if_pos he, ← he, with_same hs hf]
      · rw [if_neg he, if_neg m2, mp_without, mp_with]
  · have h2 : c.kind = 2 := by have := hc.kind; omega
    obtain ⟨m1, _⟩ := hc.gone h2
    rw [if_neg h0, if_neg h1, if_neg h0, if_neg h1]
    simp only
    rw [if_neg m1, mp_find]
    cases hf : dfind l c.src with
    | none =>
      simp only [Option.map_none]
      have : dwithout l c.src = l := by
        unfold dwithout
        refine List.filter_eq_self.2 fun x hx => ?_
        unfold dfind at hf
        simp only [Option.map_eq_none_iff, List.find?_eq_none] at hf
        simpa using hf x hx
      rw [this]
    | some id =>
      simp only [Option.map_some]
      rw [if_neg m1]
      simp only [if_true]
      exact mp_without s l c.src
end Go.Proofs.Ytfeogoihkpclcaa

/-
  What stays true of the program's disk as plain data, whatever is done: names in order, each number once, files as they were written.
-/
namespace Go.Proofs.Ytfeogoihkpclcaa

theorem before_trans : ∀ {a b c : List UInt8}, bytesBefore a b = true → bytesBefore b c = true → bytesBefore a c = true
  | [], [], _, h, _ => by cases h
  | [], _ :: _, [], _, h => by cases h
  | [], _ :: _, _ :: _, _, _ => rfl
  | _ :: _, [], _, h, _ => by cases h
  | _ :: _, _ :: _, [], _, h => by cases h
  | a :: r, b :: t, c :: u, h, k => by
    unfold bytesBefore at h k ⊢
    simp only [Bool.or_eq_true, decide_eq_true_eq, Bool.and_eq_true, beq_iff_eq] at h k ⊢
    rcases h with h | ⟨rfl, h⟩
    · rcases k with k | ⟨rfl, k⟩
      · exact .inl (UInt8.lt_trans h k)
      · exact .inl h
    · rcases k with k | ⟨rfl, k⟩
      · exact .inl k
      · exact .inr ⟨rfl, before_trans h k⟩

theorem before_total : ∀ {a b : List UInt8}, bytesBefore a b = false → a ≠ b → bytesBefore b a = true
  | [], [], _, h => absurd rfl h
  | [], _ :: _, h, _ => by cases h
  | _ :: _, [], _, _ => rfl
  | a :: r, b :: t, h, k => by
    unfold bytesBefore at h ⊢
    simp only [Bool.or_eq_false_iff, decide_eq_false_iff_not, Bool.and_eq_false_iff, beq_eq_false_iff_ne] at h
    simp only [Bool.or_eq_true, decide_eq_true_eq, Bool.and_eq_true, beq_iff_eq]
    obtain ⟨h1, h2⟩ := h
    by_cases hab : a = b
    · subst hab
      rcases h2 with h2 | h2
      · exact absurd rfl h2
      · exact .inr ⟨rfl, before_total h2 fun e => k (by rw [e])⟩
    · exact .inl (UInt8.lt_of_le_of_ne (UInt8.not_lt.1 h1) (Ne.symm hab))

theorem put_perm : ∀ (l : DB) (n : List UInt8) (id : Nat), (dput l n id).Perm ((n, id) :: l)
  | [], _, _ => List.Perm.refl _
  | x :: r, n, id => by
    unfold dput
    split
    · exact List.Perm.refl _
    · exact ((put_perm r n id).cons x).trans (List.Perm.swap _ _ _)

theorem put_srt : ∀ {l : DB} {n : List UInt8} {id : Nat}, Srt l → (∀ x ∈ l, x.1 ≠ n) → Srt (dput l n id)
  | [], _, _, _, _ => List.pairwise_singleton _ _
  | x :: r, n, id, h, hn => by
    have hp := List.pairwise_cons.1 h
    unfold dput
    rw [before_above]
    by_cases hb : bytesBefore n x.1 = true
    · rw [if_pos hb]
      refine List.pairwise_cons.2 ⟨fun y hy => ?_, h⟩
      rcases List.mem_cons.1 hy with rfl | hy
      · exact hb
      · exact before_trans hb (hp.1 y hy)
    · rw [if_neg hb]
      refine List.pairwise_cons.2 ⟨fun y hy => ?_, put_srt hp.2 fun x hx => hn x (by simp [hx])⟩
      rcases List.mem_cons.1 ((put_perm r n id).mem_iff.1 hy) with rfl | hy
      · exact before_total (by simpa using hb) fun e => hn x (by simp) e.symm
      · exact hp.1 y hy

theorem without_ne {l : DB} {n : List UInt8} : ∀ x ∈ dwithout l n, x.1 ≠ n := fun x hx => by
  have := (List.mem_filter.1 hx).2
  simpa using this
theorem with_perm (l : DB) (n : List UInt8) (id : Nat) : (dwith l n id).Perm ((n, id) :: dwithout l n) := put_perm _ _ _

/-- Names in order, none empty or long, each number once, and below 'n'. -/
structure NOk (l : DB) (n : Nat) : Prop where
  srt : Srt l
  nod : (l.map (·.2)).Nodup
  ids : ∀ x ∈ l, x.2 < n
  nms : ∀ x ∈ l, x.1 ≠ [] ∧ x.1.length ≤ 40

theorem NOk.nil (n : Nat) : NOk [] n := ⟨List.Pairwise.nil, List.nodup_nil, fun _ hx => (nomatch hx), fun _ hx => (nomatch hx)⟩
theorem NOk.mono {l : DB} {n m : Nat} (h : NOk l n) (hm : n ≤ m) : NOk l m := ⟨h.srt, h.nod, fun x hx => Nat.lt_of_lt_of_le (h.ids x hx) hm, h.nms⟩
theorem NOk.without {l : DB} {n : Nat} (h : NOk l n) (m : List UInt8) : NOk (dwithout l m) n :=
  ⟨List.Pairwise.filter _ h.srt, h.nod.sublist (List.Sublist.map _ List.filter_sublist), fun x hx => h.ids x (List.mem_filter.1 hx).1, fun x hx => h.nms x (List.mem_filter.1 hx).1⟩
theorem NOk.with_ {l : DB} {n : Nat} (h : NOk l n) (m : List UInt8) (id : Nat) (hm : m ≠ [] ∧ m.length ≤ 40) (hid : id < n) (hnew : ∀ x ∈ dwithout l m, x.2 ≠ id) : NOk (dwith l m id) n := by
  have hw := h.without m
  have hp := with_perm l m id
  refine ⟨put_srt hw.srt without_ne, ((hp.map (·.2)).nodup_iff).2 (List.nodup_cons.2 ⟨fun hin => ?_, hw.nod⟩), fun x hx => ?_, fun x hx => ?_⟩
  · obtain ⟨x, hx, he⟩ := List.mem_map.1 hin
    exact hnew x hx he
  · rcases List.mem_cons.1 (hp.mem_iff.1 hx) with rfl | hx
    · exact hid
    · exact hw.ids x hx
  · rcases List.mem_cons.1 (hp.mem_iff.1 hx) with rfl | hx
    · exact hm
    · exact hw.nms x hx

theorem nod_eq {l : DB} (h : (l.map (·.2)).Nodup) {x y : List UInt8 × Nat} (hx : x ∈ l) (hy : y ∈ l) (e : x.2 = y.2) : x = y := by
  induction l with
  | nil => cases hx
  | cons z r ih =>
    have hp := List.nodup_cons.1 h
    rcases List.mem_cons.1 hx with e1 | hx1
    · rcases List.mem_cons.1 hy with e2 | hy1
      · rw [e1, e2]
      · exact absurd (show z.2 ∈ r.map (·.2) from List.mem_map.2 ⟨y, hy1, by rw [← e, e1]⟩) hp.1
    · rcases List.mem_cons.1 hy with e2 | hy1
      · exact absurd (show z.2 ∈ r.map (·.2) from List.mem_map.2 ⟨x, hx1, by rw [e, e2]⟩) hp.1
      · exact ih hp.2 hx1 hy1

theorem NOk.ren {l : DB} {n : Nat} (h : NOk l n) {c : PC} (hc : COk c n) (hf : c.kind = 0 → ∀ x ∈ l, x.2 ≠ c.file) : NOk (ren l c) n := by
  unfold Go.Proofs.Ytfeogoihkpclcaa.ren
  by_cases h0 : c.kind = 0
  · rw [if_pos h0]
    obtain ⟨m1, m2, m3, _⟩ := hc.made h0
    exact h.with_ _ _ ⟨m1, m2⟩ m3 fun x hx => hf h0 x (List.mem_filter.1 hx).1
  rw [if_neg h0]
  by_cases h1 : c.kind = 1
  · rw [if_pos h1]
    obtain ⟨m1, m2, m3, m4, _⟩ := hc.moved h1
    cases hd : dfind l c.src with
    | none => exact h
    | some id =>
      have hin := dfind_in hd
      refine (h.without c.src).with_ _ _ ⟨m2, m3⟩ (h.ids _ hin) fun x hx e => ?_
      have hx1 := (List.mem_filter.1 hx).1
      have := nod_eq h.nod (List.mem_filter.1 hx1).1 hin e
      exact without_ne x hx1 (by rw [this])
  · rw [if_neg h1]
    exact h.without _

theorem ren_len (l : DB) (c : PC) : (ren l c).length ≤ l.length + 1 := by
  have hw : ∀ n, (dwithout l n).length ≤ l.length := fun n => List.length_filter_le _ _
  have hp : ∀ (l : DB) n id, (dwith l n id).length = (dwithout l n).length + 1 := fun l n id => (with_perm l n id).length_eq
  unfold ren
  split
  · rw [hp]; have := hw c.dst; omega
  split
  · cases dfind l c.src with
    | none => simp
    | some id =>
      simp only
      rw [hp]
      have h1 := hw c.src
      have h2 : (dwithout (dwithout l c.src) c.dst).length ≤ (dwithout l c.src).length := List.length_filter_le _ _
      omega
  · have := hw c.src; omega

/-- A file, 'k' calls on. -/
structure FB (f : PF) (k : Nat) : Prop where
  size : f.safe.length + manyL f.loose ≤ 300 * k
  num : f.loose.length ≤ k
  wok : WOk f.safe f.loose
  now : f.now = DF.all ⟨f.safe, f.loose⟩

theorem all_len : ∀ (l : List (Nat × List UInt8)) (b : List UInt8), WOk b l → (l.foldl (fun b p => wr b p.1 p.2) b).length ≤ b.length + manyL l
  | [], b, _ => by simp [manyL]
  | p :: r, b, h => by
    have ih := all_len r _ h.2
    have hw := wr_length b p.2 p.1 h.1
    have hp := h.1
    simp only [List.foldl_cons]
    have hm : manyL (p :: r) = p.2.length + manyL r := by simp [manyL]
    omega

theorem FB.now_len {f : PF} {k : Nat} (h : FB f k) : f.now.length ≤ 300 * k := by
  rw [h.now]
  exact Nat.le_trans (all_len _ _ h.wok) h.size
theorem FB.fok {f : PF} {k : Nat} (h : FB f k) (hk : k ≤ 1000) : FOk f := fok_of (by have := h.size; omega) (by have := h.now_len; omega) (by have := h.num; omega) h.wok
theorem FB.mono {f : PF} {k m : Nat} (h : FB f k) (hm : k ≤ m) : FB f m := ⟨by have := h.size; omega, by have := h.num; omega, h.wok, h.now⟩
theorem FB.new (k : Nat) : FB PF.new k := ⟨by simp [PF.new, manyL], by simp [PF.new], trivial, rfl⟩
theorem FB.wrote {f : PF} {k : Nat} (h : FB f k) (a : Nat) (l : List UInt8) (ha : a ≤ f.now.length) (hl : l.length ≤ 300) : FB (f.wrote a l) (k + 1) := by
  refine ⟨?_, by simp [PF.wrote]; exact h.num, ?_, ?_⟩
  · have := h.size
    simp only [PF.wrote, manyL, List.map_append, List.map_cons, List.map_nil, List.sum_append, List.sum_cons, List.sum_nil] at this ⊢
    omega
  · exact wok_append f.loose f.safe (a, l) h.wok (by rw [h.now] at ha; exact ha)
  · show wr f.now a l = List.foldl _ _ (f.loose ++ [(a, l)])
    rw [List.foldl_append, h.now]
    rfl

theorem kept_many : ∀ (l : List (Nat × List UInt8)) (b : List UInt8) (k : Nat), manyL l ≤ k → kept l k b = l.foldl (fun b p => wr b p.1 p.2) b
  | [], b, k, _ => rfl
  | p :: r, b, k, h => by
    have hm : manyL (p :: r) = p.2.length + manyL r := by simp [manyL]
    unfold kept
    rw [List.take_of_length_le (by omega)]
    by_cases h0 : k = 0
    · rw [if_pos h0]
      have hp : p.2 = [] := List.eq_nil_of_length_eq_zero (by omega)
      have ih := kept_many r b 0 (by omega)
      rw [kept_zero] at ih
      rw [List.foldl_cons, hp, wr_nil]
      exact ih
    · rw [if_neg h0, List.foldl_cons]
      exact kept_many r _ _ (by omega)

theorem FB.safed {f : PF} {k : Nat} (h : FB f k) : FB f.safed k ∧ f.safed.safe = DF.all ⟨f.safe, f.loose⟩ := by
  have e : f.safed.safe = DF.all ⟨f.safe, f.loose⟩ := kept_many f.loose f.safe _ (Nat.le_refl _)
  refine ⟨⟨?_, Nat.zero_le _, trivial, ?_⟩, e⟩
  · rw [e]
    show _ + manyL [] ≤ _
    have h1 := all_len f.loose f.safe h.wok
    have h2 := h.size
    have : manyL [] = 0 := rfl
    unfold DF.all
    simp only at h1 ⊢
    omega
  · show f.now = _
    rw [h.now]
    exact e.symm

theorem FB.fallen {f : PF} {k : Nat} (h : FB f k) (n : Int) : FB (f.fallen n) k := by
  refine ⟨?_, Nat.zero_le _, trivial, rfl⟩
  have h1 := kept_len f.loose (rest n (manyL f.loose)) f.safe h.wok
  have h2 := h.size
  have : manyL [] = 0 := rfl
  show (kept _ _ _).length + manyL [] ≤ _
  omega
end Go.Proofs.Ytfeogoihkpclcaa

/-
  The program's disk and the document's as plain data, call by call: they answer alike, and stay alike.
-/
namespace Go.Proofs.Ytfeogoihkpclcaa

/-- 'k' calls on. -/
structure DInv (d : PD) (k : Nat) : Prop where
  files : d.files.length ≤ k
  calls : d.calls ≤ k
  names : d.safe.length + d.loose.length ≤ k
  fb : ∀ f ∈ d.files, FB f k
  cok : ∀ c ∈ d.loose, COk c d.files.length
  pre : ∀ j, NOk (d.redone j).names d.files.length
  cur : (d.redone d.loose.length).names = d.names

/-- Alike: 's' turns the files' numbers. -/
structure Sim (s : Nat → Nat) (d : PD) (m : DM) : Prop where
  room : m.plan.room = d.room
  crash : m.plan.crash = d.crash
  done : m.plan.done = d.done
  calls : m.calls = (d.calls : Int)
  down : m.down = d.down
  now : m.now = mp s d.names
  old : m.old = mp s d.safe
  loose : m.loose = d.loose.map (cv s)
  inj : ∀ i j, i < d.files.length → j < d.files.length → s i = s j → i = j
  lt : ∀ i, i < d.files.length → s i < m.files.length
  fls : ∀ i, i < d.files.length → m.file (s i) = ⟨(d.file i).safe, (d.file i).loose⟩

def Alike (d : PD) (m : DM) (k : Nat) : Prop := DInv d k ∧ ∃ s, Sim s d m

section
variable {d : PD} {m : DM} {k : Nat} {s : Nat → Nat}

theorem DInv.nok (h : DInv d k) : NOk d.names d.files.length := by
  rw [← h.cur]
  exact h.pre _

theorem redone_len (d : PD) (j : Nat) : (d.redone j).names.length ≤ d.safe.length + d.loose.length := by
  have key : ∀ (l : List PC) (b : DB), (l.foldl ren b).length ≤ b.length + l.length := by
    intro l
    induction l with
    | nil => intro b; simp
    | cons c r ih =>
      intro b
      have := ih (ren b c)
      have := ren_len b c
      simp only [List.foldl_cons, List.length_cons]
      omega
  have := key (d.loose.take j) d.safe
  have h2 : (d.loose.take j).length ≤ d.loose.length := by rw [List.length_take]; omega
  show (List.foldl ren d.safe (d.loose.take j)).length ≤ _
  omega

theorem COk.chok {c : PC} {n : Nat} (h : COk c n) (hn : n ≤ 10000) : ChOk c := by
  have hk := h.kind
  rcases (by omega : c.kind = 0 ∨ c.kind = 1 ∨ c.kind = 2) with e | e | e
  · obtain ⟨_, m2, m3, m4⟩ := h.made e
    exact ⟨hk, by rw [m4]; decide, by omega, by omega⟩
  · obtain ⟨_, _, m3, m4, m5⟩ := h.moved e
    exact ⟨hk, by omega, by omega, by omega⟩
  · obtain ⟨_, m2, m3, m4⟩ := h.gone e
    exact ⟨hk, by omega, by rw [m3]; decide, by omega⟩

theorem DInv.small (h : DInv d k) (hk : k ≤ 1000) (j : Nat) : Small (d.redone j) := by
  have hn := h.pre j
  have hl := redone_len d j
  have hs : NOk d.safe d.files.length := by have := h.pre 0; exact this
  have h1 := h.files
  have h2 := h.names
  have h3 := h.calls
  refine ⟨by show d.files.length < _; omega, by show d.loose.length < _; omega, by omega, by show d.safe.length < _; omega, by show d.calls < _; omega, hn.ids, hs.ids, fun c hc => (h.cok c hc).chok (by omega), fun f hf => (h.fb f hf).fok hk, fun x hx => by have := (hn.nms x hx).2; omega, fun x hx => by have := (hs.nms x hx).2; omega⟩

theorem DInv.small0 (h : DInv d k) (hk : k ≤ 1000) : Small d := by
  have := h.small hk d.loose.length
  have e : d.redone d.loose.length = d := by
    unfold PD.redone
    have := h.cur
    unfold PD.redone at this
    simp only at this
    rw [this]
  rwa [e] at this

theorem file_of {d : PD} {i : Nat} (h : i < d.files.length) : d.file i ∈ d.files := by
  unfold PD.file
  rw [List.getD_eq_getElem?_getD, List.getElem?_eq_getElem h]
  exact List.getElem_mem h

theorem Sim.all (h : Sim s d m) (hd : DInv d k) {i : Nat} (hi : i < d.files.length) : (m.file (s i)).all = (d.file i).now := by
  rw [h.fls i hi]
  exact (hd.fb _ (file_of hi)).now.symm

theorem Sim.find (h : Sim s d m) (n : List UInt8) : dfind m.now n = (dfind d.names n).map s := by
  rw [h.now, mp_find]

/-! ### What is told. -/

theorem sim_list (h : Sim s d m) (hd : DInv d k) : m.list = d.list := by
  unfold DM.list PD.list
  rw [h.now]
  unfold mp
  rw [List.map_map]
  refine List.map_congr_left fun x hx => ?_
  have hi := hd.nok.ids x hx
  show (x.1, (m.file (s x.2)).all, (m.file (s x.2)).many) = _
  rw [h.all hd hi, h.fls _ hi]
  rfl

theorem sim_used (h : Sim s d m) (hd : DInv d k) : m.used = d.used := by
  unfold DM.used PD.used
  rw [h.now]
  unfold mp
  rw [List.map_map]
  congr 1
  refine List.map_congr_left fun x hx => ?_
  show (m.file (s x.2)).all.length = _
  rw [h.all hd (hd.nok.ids x hx)]

theorem sim_read (h : Sim s d m) (hd : DInv d k) (n : List UInt8) (a c : Int) : m.read n a c = d.read n a c := by
  unfold DM.read PD.read
  rw [h.down, h.find]
  split
  · rfl
  · cases hf : dfind d.names n with
    | none => rfl
    | some id =>
      simp only [Option.map_some]
      rw [h.all hd (hd.nok.ids _ (dfind_in hf))]

theorem sim_size (h : Sim s d m) (hd : DInv d k) (n : List UInt8) : m.size n = d.size n := by
  unfold DM.size PD.size
  rw [h.find]
  cases hf : dfind d.names n with
  | none => rfl
  | some id =>
    simp only [Option.map_some]
    rw [h.all hd (hd.nok.ids _ (dfind_in hf))]

/-! ### A call is counted. -/

theorem sim_live (h : Sim s d m) : m.live = !d.dn := by
  unfold DM.live PD.dn
  rw [h.crash, h.calls]
  by_cases e : (d.calls : Int) + 1 = d.crash
  · have h1 : ¬ d.crash < 1 := by omega
    simp [e, h1]
  · simp [e]
theorem sim_is (h : Sim s d m) : m.is = d.isdo := by
  unfold DM.is PD.isdo
  rw [sim_live h, h.done]
theorem sim_err (h : Sim s d m) : m.err = d.err := by
  unfold DM.err PD.err
  rw [sim_live h]
  cases d.dn <;> rfl
theorem sim_counted (h : Sim s d m) : Sim s d.cnt m.counted :=
  ⟨h.room, h.crash, h.done, by show m.calls + 1 = ((d.calls + 1 : Nat) : Int); rw [h.calls]; omega, by show (!m.live) = d.dn; rw [sim_live h]; simp, h.now, h.old, h.loose, h.inj, h.lt, h.fls⟩
theorem inv_counted (h : DInv d k) : DInv d.cnt (k + 1) :=
  ⟨Nat.le_succ_of_le h.files, Nat.succ_le_succ h.calls, Nat.le_succ_of_le h.names, fun f hf => (h.fb f hf).mono (Nat.le_succ _), h.cok, h.pre, h.cur⟩
theorem inv_mono (h : DInv d k) {j : Nat} (hj : k ≤ j) : DInv d j :=
  ⟨Nat.le_trans h.files hj, Nat.le_trans h.calls hj, Nat.le_trans h.names hj, fun f hf => (h.fb f hf).mono hj, h.cok, h.pre, h.cur⟩
end
end Go.Proofs.Ytfeogoihkpclcaa
