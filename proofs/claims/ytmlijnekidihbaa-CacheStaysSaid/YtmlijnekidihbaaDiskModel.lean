/-
  A disk as plain data: what chapter 4 says of it, on lists of bytes and numbers; nothing of the program.
-/
import Derived.Test.YtmlijnekidihbaaKeyMath
import Derived.Test.YtmlijnekidihbaaCells
namespace Go.Proofs.Ytmlijnekidihbaa

/-- Bytes with a write done. -/
def wr (b : List UInt8) (a : Nat) (p : List UInt8) : List UInt8 := b.take a ++ p ++ b.drop (a + p.length)

/-- A file: what is safe, and the loose writes. -/
structure DF where
  safe : List UInt8
  loose : List (Nat × List UInt8)

/-- What it has. -/
def DF.all (f : DF) : List UInt8 := f.loose.foldl (fun b p => wr b p.1 p.2) f.safe
/-- How many bytes its loose writes have together. -/
def DF.many (f : DF) : Nat := (f.loose.map fun p => p.2.length).sum
def DF.none_ : DF := ⟨[], []⟩

/-- A change of names: from [], made; to [], gone. -/
structure DC where
  src : List UInt8
  dst : List UInt8
  id : Nat

abbrev DB := List (List UInt8 × Nat)

def dfind (l : DB) (n : List UInt8) : Option Nat := (l.find? fun x => x.1 == n).map (·.2)
def dwithout (l : DB) (n : List UInt8) : DB := l.filter fun x => !(x.1 == n)
/-- Is the second one ahead of the first? -/
def above (x : List UInt8 × Nat) (n : List UInt8) : Bool := cmpL x.1 n == 1
def dput : DB → List UInt8 → Nat → DB
  | [], n, id => [(n, id)]
  | x :: r, n, id => if above x n then (n, id) :: x :: r else x :: dput r n id
def dwith (l : DB) (n : List UInt8) (id : Nat) : DB := dput (dwithout l n) n id
def dchanged (l : DB) (c : DC) : DB :=
  if c.src = [] then dwith l c.dst c.id
  else match dfind l c.src with
    | none => l
    | some id => if c.src = c.dst then l else if c.dst = [] then dwithout l c.src else dwith (dwithout l c.src) c.dst id

/-- A plan. -/
structure DP where
  room : Int
  crash : Int
  done : Bool
  keep : List Int
  names : Int

/-- A disk. -/
structure DM where
  files : List DF
  now : DB
  old : DB
  loose : List DC
  plan : DP
  calls : Int
  down : Bool

def DM.new (p : DP) : DM := ⟨[], [], [], [], p, 0, false⟩
def DM.file (m : DM) (id : Nat) : DF := m.files.getD id DF.none_

/-- A call is counted: is it done, and its error. -/
def DM.live (m : DM) : Bool := decide (m.plan.crash < 1) || decide (m.calls + 1 ≠ m.plan.crash)
def DM.is (m : DM) : Bool := m.live || m.plan.done
def DM.err (m : DM) : Nat := if m.live then 0 else 7
def DM.counted (m : DM) : DM := { m with calls := m.calls + 1, down := !m.live }

def DM.change (m : DM) (c : DC) : Nat × DM :=
  (m.err, if m.is then { m.counted with loose := m.loose ++ [c], now := dchanged m.now c } else m.counted)

def DM.make (m : DM) (n : List UInt8) : Nat × DM :=
  if m.down then (7, m) else if !nmOk n then (1, m) else if (dfind m.now n).isSome then (3, m)
  else ({ m with files := m.files ++ [DF.none_] } : DM).change ⟨[], n, m.files.length⟩

def DM.used (m : DM) : Nat := (m.now.map fun x => (m.file x.2).all.length).sum

def DM.write (m : DM) (n : List UInt8) (a : Int) (b : List UInt8) : Nat × DM :=
  if m.down then (7, m) else match dfind m.now n with
  | none => (2, m)
  | some id =>
    let size : Int := ((m.file id).all.length : Int)
    if a < 0 ∨ size < a then (1, m)
    else if (1048576 : Int) - a < (b.length : Int) then (4, m)
    else if m.plan.room < (m.used : Int) + max 0 (a + (b.length : Int) - size) then (6, m)
    else (m.err, if m.is then { m.counted with files := m.files.set id { m.file id with loose := (m.file id).loose ++ [(a.toNat, b)] } } else m.counted)

def DM.safe (m : DM) (n : List UInt8) : Nat × DM :=
  if m.down then (7, m) else match dfind m.now n with
  | none => (2, m)
  | some id => (m.err, if m.is then { m.counted with files := m.files.set id ⟨(m.file id).all, []⟩ } else m.counted)

def DM.move (m : DM) (a b : List UInt8) : Nat × DM :=
  if m.down then (7, m) else if !nmOk b then (1, m) else if (dfind m.now a).isNone then (2, m) else m.change ⟨a, b, 0⟩

def DM.gone (m : DM) (a : List UInt8) : Nat × DM :=
  if m.down then (7, m) else if (dfind m.now a).isNone then (2, m) else m.change ⟨a, [], 0⟩

def DM.names (m : DM) : Nat × DM :=
  if m.down then (7, m) else (m.err, if m.is then { m.counted with old := m.now, loose := [] } else m.counted)

/-- Bytes from a place on, so many. -/
def DM.read (m : DM) (n : List UInt8) (a k : Int) : List UInt8 × Nat :=
  if m.down then ([], 7) else match dfind m.now n with
  | none => ([], 2)
  | some id =>
    let b := (m.file id).all
    if a < 0 ∨ (b.length : Int) < a ∨ k < 0 then ([], 1) else ((b.drop a.toNat).take k.toNat, 0)

def DM.size (m : DM) (n : List UInt8) : Nat × Bool :=
  match dfind m.now n with
  | none => (0, false)
  | some id => ((m.file id).all.length, true)

def DM.list (m : DM) : List (List UInt8 × List UInt8 × Nat) := m.now.map fun x => (x.1, (m.file x.2).all, (m.file x.2).many)

/-- A number modulo another one and one, none below 0. -/
def rest (n : Int) (m : Nat) : Nat := (max 0 n).toNat % (m + 1)

/-- The first bytes of the writes, so many, done. -/
def kept : List (Nat × List UInt8) → Nat → List UInt8 → List UInt8
  | [], _, b => b
  | p :: r, left, b => if left = 0 then b else kept r (left - p.2.length) (wr b p.1 (p.2.take left))

/-- How many of a file's loose bytes are kept. -/
def DP.left (p : DP) (i m : Nat) : Nat := if p.keep = [] then 0 else rest (p.keep.getD (i % p.keep.length) 0) m

def DF.fallen (f : DF) (left : Nat) : DF := ⟨kept f.loose left f.safe, []⟩

/-- Files, from the 'i'-th name on, fallen. -/
def fallFiles (p : DP) : DB → Nat → List DF → List DF
  | [], _, fs => fs
  | x :: r, i, fs => fallFiles p r (i + 1) (fs.set x.2 ((fs.getD x.2 DF.none_).fallen (p.left i (fs.getD x.2 DF.none_).many)))

def DM.names_ (m : DM) (p : DP) : DB := (m.loose.take (rest p.names m.loose.length)).foldl dchanged m.old

def DM.fall (m : DM) (p : DP) : DM :=
  ⟨fallFiles p (m.names_ p) 0 m.files, m.names_ p, m.names_ p, [], p, 0, false⟩

/-! ### What bytes come to. -/

theorem wr_nil (b : List UInt8) (a : Nat) : wr b a [] = b := by simp [wr]

theorem wr_end (b p : List UInt8) : wr b b.length p = b ++ p := by
  unfold wr
  rw [List.take_length, List.drop_eq_nil_of_le (by omega), List.append_nil]

theorem wr_length (b p : List UInt8) (a : Nat) (h : a ≤ b.length) : (wr b a p).length = max b.length (a + p.length) := by
  unfold wr
  simp only [List.length_append, List.length_take, List.length_drop]
  omega

theorem wr_zero (p : List UInt8) : wr [] 0 p = p := by simp [wr]

/-! ### Calls that are done. -/

theorem live_free {m : DM} (h : m.plan.crash = 0) : m.live = true := by simp [DM.live, h]

theorem make_ok {m : DM} {n : List UInt8} (hd : m.down = false) (hl : m.live = true) (hn : nmOk n = true) (hf : dfind m.now n = none) :
    m.make n = (0, ⟨m.files ++ [DF.none_], dwith m.now n m.files.length, m.old, m.loose ++ [⟨[], n, m.files.length⟩], m.plan, m.calls + 1, false⟩) := by
  obtain ⟨files, now, old, loose, plan, calls, down⟩ := m
  simp only at hd hf
  subst hd
  have hl' : DM.live ⟨files ++ [DF.none_], now, old, loose, plan, calls, false⟩ = true := hl
  simp [DM.make, hn, hf, DM.change, DM.is, DM.err, hl', DM.counted, dchanged]

theorem write_ok {m : DM} {n : List UInt8} {id : Nat} {a : Nat} {b : List UInt8} (hd : m.down = false) (hl : m.live = true) (hf : dfind m.now n = some id)
    (h1 : a ≤ (m.file id).all.length) (h2 : a + b.length ≤ 1048576) (h3 : (m.used : Int) + max 0 ((a : Int) + (b.length : Int) - ((m.file id).all.length : Int)) ≤ m.plan.room) :
    m.write n (a : Int) b = (0, ⟨m.files.set id ⟨(m.file id).safe, (m.file id).loose ++ [(a, b)]⟩, m.now, m.old, m.loose, m.plan, m.calls + 1, false⟩) := by
  unfold DM.write
  rw [hd, hf]
  simp only [Bool.false_eq_true, if_false]
  rw [if_neg (by omega), if_neg (by omega), if_neg (by omega)]
  simp [DM.is, DM.err, hl, DM.counted]

theorem safe_ok {m : DM} {n : List UInt8} {id : Nat} (hd : m.down = false) (hl : m.live = true) (hf : dfind m.now n = some id) :
    m.safe n = (0, ⟨m.files.set id ⟨(m.file id).all, []⟩, m.now, m.old, m.loose, m.plan, m.calls + 1, false⟩) := by
  unfold DM.safe
  rw [hd, hf]
  simp [DM.is, DM.err, hl, DM.counted]

theorem names_ok {m : DM} (hd : m.down = false) (hl : m.live = true) : m.names = (0, ⟨m.files, m.now, m.now, [], m.plan, m.calls + 1, false⟩) := by
  unfold DM.names
  rw [hd]
  simp [DM.is, DM.err, hl, DM.counted]

theorem move_ok {m : DM} {a b : List UInt8} {id : Nat} (hd : m.down = false) (hl : m.live = true) (hn : nmOk b = true) (hf : dfind m.now a = some id) :
    m.move a b = (0, ⟨m.files, dchanged m.now ⟨a, b, 0⟩, m.old, m.loose ++ [⟨a, b, 0⟩], m.plan, m.calls + 1, false⟩) := by
  simp [DM.move, hd, hn, hf, DM.change, DM.is, DM.err, hl, DM.counted]

theorem gone_ok {m : DM} {a : List UInt8} {id : Nat} (hd : m.down = false) (hl : m.live = true) (hf : dfind m.now a = some id) :
    m.gone a = (0, ⟨m.files, dchanged m.now ⟨a, [], 0⟩, m.old, m.loose ++ [⟨a, [], 0⟩], m.plan, m.calls + 1, false⟩) := by
  simp [DM.gone, hd, hf, DM.change, DM.is, DM.err, hl, DM.counted]
end Go.Proofs.Ytmlijnekidihbaa
