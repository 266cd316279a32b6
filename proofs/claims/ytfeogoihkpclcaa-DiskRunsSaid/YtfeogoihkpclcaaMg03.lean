import Derived.Test.YtfeogoihkpclcaaMg02
import Derived.Test.YtfeogoihkpclcaaMg01
import Derived.Test.YtfeogoihkpclcaaProg
import Derived.Maps.OwnSet
import Derived.Maps.Ext
import Derived.Sort.KeysCollected
import Derived.Test.YtfeogoihkpclcaaMg00

/-
  A disk as plain data: what chapter 4 says of it, on lists of bytes and numbers; nothing of the program.
-/
namespace Go.Proofs.Ytfeogoihkpclcaa

/-- Bytes with a write done. -/
def wr (b : List UInt8) (a : Nat) (p : List UInt8) : List UInt8 := b.take a ++ p ++ b.drop (a + p.length)

/-- A file: what is safe, and the loose writes. -/
structure DF where
  safe : List UInt8
  loose : List (Nat × List UInt8)

/-- What it has. -/
def DF.all (f : DF) : List UInt8 := f.loose.foldl (fun b p => wr b p.1 p.2) f.safe
/-- How many bytes its loose writes have together. -/
def DF.many (f : DF) : Nat := (f.loose.map fun p => p.2.length).sum
def DF.none_ : DF := ⟨[], []⟩

/-- A change of names: from [], made; to [], gone. -/
structure DC where
  src : List UInt8
  dst : List UInt8
  id : Nat

abbrev DB := List (List UInt8 × Nat)

def dfind (l : DB) (n : List UInt8) : Option Nat := (l.find? fun x => x.1 == n).map (·.2)
def dwithout (l : DB) (n : List UInt8) : DB := l.filter fun x => !(x.1 == n)
/-- Is the second one ahead of the first? -/
def above (x : List UInt8 × Nat) (n : List UInt8) : Bool := cmpL x.1 n == 1
def dput : DB → List UInt8 → Nat → DB
  | [], n, id => [(n, id)]
  | x :: r, n, id => if above x n then (n, id) :: x :: r else x :: dput r n id
def dwith (l : DB) (n : List UInt8) (id : Nat) : DB := dput (dwithout l n) n id
def dchanged (l : DB) (c : DC) : DB :=
  if c.src = [] then dwith l c.dst c.id
  else match dfind l c.src with
    | none => l
    | some id => if c.src = c.dst then l else if c.dst = [] then dwithout l c.src else dwith (dwithout l c.src) c.dst id

/-- A plan. -/
structure DP where
  room : Int
  crash : Int
  done : Bool
  keep : List Int
  names : Int

/-- A disk. -/
structure DM where
  files : List DF
  now : DB
  old : DB
  loose : List DC
  plan : DP
  calls : Int
  down : Bool

def DM.new (p : DP) : DM := ⟨[], [], [], [], p, 0, false⟩
def DM.file (m : DM) (id : Nat) : DF := m.files.getD id DF.none_

/-- A call is counted: is it done, and its error. -/
def DM.live (m : DM) : Bool := decide (m.plan.crash < 1) || decide (m.calls + 1 ≠ m.plan.crash)
def DM.is (m : DM) : Bool := m.live || m.plan.done
def DM.err (m : DM) : Nat := if m.live then 0 else 7
def DM.counted (m : DM) : DM := { m with calls := m.calls + 1, down := !m.live }

def DM.change (m : DM) (c : DC) : Nat × DM :=
  (m.err, if m.is then { m.counted with loose := m.loose ++ [c], now := dchanged m.now c } else m.counted)

def DM.make (m : DM) (n : List UInt8) : Nat × DM :=
  if m.down then (7, m) else if !nmOk n then (1, m) else if (dfind m.now n).isSome then (3, m)
  else ({ m with files := m.files ++ [DF.none_] } : DM).change ⟨[], n, m.files.length⟩

def DM.used (m : DM) : Nat := (m.now.map fun x => (m.file x.2).all.length).sum

def DM.write (m : DM) (n : List UInt8) (a : Int) (b : List UInt8) : Nat × DM :=
  if m.down then (7, m) else match dfind m.now n with
  | none => (2, m)
  | some id =>
    let size : Int := ((m.file id).all.length : Int)
    if a < 0 ∨ size < a then (1, m)
    else if (1048576 : Int) - a < (b.length : Int) then (4, m)
    else if m.plan.room < (m.used : Int) + max 0 (a + (b.length : Int) - size) then (6, m)
    else (m.err, if m.is then { m.counted with files := m.files.set id { m.file id with loose := (m.file id).loose ++ [(a.toNat, b)] } } else m.counted)

def DM.safe (m : DM) (n : List UInt8) : Nat × DM :=
  if m.down then (7, m) else match dfind m.now n with
  | none => (2, m)
  | some id => (m.err, if m.is then { m.counted with files := m.files.set id ⟨(m.file id).all, []⟩ } else m.counted)

def DM.move (m : DM) (a b : List UInt8) : Nat × DM :=
  if m.down then (7, m) else if !nmOk b then (1, m) else if (dfind m.now a).isNone then (2, m) else m.change ⟨a, b, 0⟩

def DM.gone (m : DM) (a : List UInt8) : Nat × DM :=
  if m.down then (7, m) else if (dfind m.now a).isNone then (2, m) else m.change ⟨a, [], 0⟩

def DM.names (m : DM) : Nat × DM :=
  if m.down then (7, m) else (m.err, if m.is then { m.counted with old := m.now, loose := [] } else m.counted)

/-- Bytes from a place on, so many. -/
def DM.read (m : DM) (n : List UInt8) (a k : Int) : List UInt8 × Nat :=
  if m.down then ([], 7) else match dfind m.now n with
  | none => ([], 2)
  | some id =>
    let b := (m.file id).all
    if a < 0 ∨ (b.length : Int) < a ∨ k < 0 then ([], 1) else ((b.drop a.toNat).take k.toNat, 0)

def DM.size (m : DM) (n : List UInt8) : Nat × Bool :=
  match dfind m.now n with
  | none => (0, false)
  | some id => ((m.file id).all.length, true)

def DM.list (m : DM) : List (List UInt8 × List UInt8 × Nat) := m.now.map fun x => (x.1, (m.file x.2).all, (m.file x.2).many)

/-- A number modulo another one and one, none below 0. -/
def rest (n : Int) (m : Nat) : Nat := (max 0 n).toNat % (m + 1)

/-- The first bytes of the writes, so many, done. -/
def kept : List (Nat × List UInt8) → Nat → List UInt8 → List UInt8
  | [], _, b => b
  | p :: r, left, b => if left = 0 then b else kept r (left - p.2.length) (wr b p.1 (p.2.take left))

/-- How many of a file's loose bytes are kept. -/
def DP.left (p : DP) (i m : Nat) : Nat := if p.keep = [] then 0 else rest (p.keep.getD (i % p.keep.length) 0) m

def DF.fallen (f : DF) (left : Nat) : DF := ⟨kept f.loose left f.safe, []⟩

/-- Files, from the 'i'-th name on, fallen. -/
def fallFiles (p : DP) : DB → Nat → List DF → List DF
  | [], _, fs => fs
  | x :: r, i, fs => fallFiles p r (i + 1) (fs.set x.2 ((fs.getD x.2 DF.none_).fallen (p.left i (fs.getD x.2 DF.none_).many)))

def DM.names_ (m : DM) (p : DP) : DB := (m.loose.take (rest p.names m.loose.length)).foldl dchanged m.old

def DM.fall (m : DM) (p : DP) : DM :=
  ⟨fallFiles p (m.names_ p) 0 m.files, m.names_ p, m.names_ p, [], p, 0, false⟩

/-! ### What bytes come to. -/

theorem wr_nil (b : List UInt8) (a : Nat) : wr b a [] = b := by simp [wr]

theorem wr_end (b p : List UInt8) : wr b b.length p = b ++ p := by
  unfold wr
  rw [List.take_length, List.drop_eq_nil_of_le (by omega), List.append_nil]

theorem wr_length (b p : List UInt8) (a : Nat) (h : a ≤ b.length) : (wr b a p).length = max b.length (a + p.length) := by
  unfold wr
  simp only [List.length_append, List.length_take, List.length_drop]
  omega

theorem wr_zero (p : List UInt8) : wr [] 0 p = p := by simp [wr]

/-! ### Calls that are done. -/

theorem live_free {m : DM} (h : m.plan.crash = 0) : m.live = true := by simp [DM.live, h]

theorem make_ok {m : DM} {n : List UInt8} (hd : m.down = false) (hl : m.live = true) (hn : nmOk n = true) (hf : dfind m.now n = none) :
    m.make n = (0, ⟨m.files ++ [DF.none_], dwith m.now n m.files.length, m.old, m.loose ++ [⟨[], n, m.files.length⟩], m.plan, m.calls + 1, false⟩) := by
  obtain ⟨files, now, old, loose, plan, calls, down⟩ := m
  simp only at hd hf
  subst hd
  have hl' : DM.live ⟨files ++ [DF.none_], now, old, loose, plan, calls, false⟩ = true := hl
  simp [DM.make, hn, hf, DM.change, DM.is, DM.err, hl', DM.counted, dchanged]

theorem write_ok {m : DM} {n : List UInt8} {id : Nat} {a : Nat} {b : List UInt8} (hd : m.down = false) (hl : m.live = true) (hf : dfind m.now n = some id)
    (h1 : a ≤ (m.file id).all.length) (h2 : a + b.length ≤ 1048576) (h3 : (m.used : Int) + max 0 ((a : Int) + (b.length : Int) - ((m.file id).all.length : Int)) ≤ m.plan.room) :
    m.write n (a : Int) b = (0, ⟨m.files.set id ⟨(m.file id).safe, (m.file id).loose ++ [(a, b)]⟩, m.now, m.old, m.loose, m.plan, m.calls + 1, false⟩) := by
  unfold DM.write
  rw [hd, hf]
  simp only [Bool.false_eq_true, if_false]
  rw [if_neg (by omega), if_neg (by omega), if_neg (by omega)]
  simp [DM.is, DM.err, hl, DM.counted]

theorem safe_ok {m : DM} {n : List UInt8} {id : Nat} (hd : m.down = false) (hl : m.live = true) (hf : dfind m.now n = some id) :
    m.safe n = (0, ⟨m.files.set id ⟨(m.file id).all, []⟩, m.now, m.old, m.loose, m.plan, m.calls + 1, false⟩) := by
  unfold DM.safe
  rw [hd, hf]
  simp [DM.is, DM.err, hl, DM.counted]

theorem names_ok {m : DM} (hd : m.down = false) (hl : m.live = true) : m.names = (0, ⟨m.files, m.now, m.now, [], m.plan, m.calls + 1, false⟩) := by
  unfold DM.names
  rw [hd]
  simp [DM.is, DM.err, hl, DM.counted]

theorem move_ok {m : DM} {a b : List UInt8} {id : Nat} (hd : m.down = false) (hl : m.live = true) (hn : nmOk b = true) (hf : dfind m.now a = some id) :
    m.move a b = (0, ⟨m.files, dchanged m.now ⟨a, b, 0⟩, m.old, m.loose ++ [⟨a, b, 0⟩], m.plan, m.calls + 1, false⟩) := by
  simp [DM.move, hd, hn, hf, DM.change, DM.is, DM.err, hl, DM.counted]

theorem gone_ok {m : DM} {a : List UInt8} {id : Nat} (hd : m.down = false) (hl : m.live = true) (hf : dfind m.now a = some id) :
    m.gone a = (0, ⟨m.files, dchanged m.now ⟨a, [], 0⟩, m.old, m.loose ++ [⟨a, [], 0⟩], m.plan, m.calls + 1, false⟩) := by
  simp [DM.gone, hd, hf, DM.change, DM.is, DM.err, hl, DM.counted]
end Go.Proofs.Ytfeogoihkpclcaa

/-
  The program's disk in memory: whose block is whose; what stays while others write.
-/
namespace Go.Proofs.Ytfeogoihkpclcaa
open Go.RowKit

/-- A file as the program keeps it. -/
structure PF where
  safe : List UInt8
  now : List UInt8
  loose : List (Nat × List UInt8)

/-- A change of names as the program keeps it. -/
structure PC where
  kind : Nat
  src : List UInt8
  dst : List UInt8
  file : Nat

/-- A disk as the program keeps it. -/
structure PD where
  room : Int
  crash : Int
  done : Bool
  calls : Nat
  down : Bool
  files : List PF
  names : DB
  safe : DB
  loose : List PC

/-! ### Maps of names. -/

def mapD (l : DB) : DataW Unit := .map (l.map fun x => (Lit.string x.1, DataW.lit (Lit.int .i64 (x.2 : Int))))

theorem bytesBefore_cmpL : ∀ a b : List UInt8, bytesBefore a b = (cmpL b a == 1)
  | [], [] => rfl
  | [], _ :: _ => rfl
  | _ :: _, [] => rfl
  | a :: r, b :: t => by
    have ih := bytesBefore_cmpL r t
    unfold bytesBefore cmpL
    rw [ih]
    by_cases h1 : a.toNat < b.toNat
    · have h2 : ¬ b.toNat < a.toNat := by omega
      have h3 : a < b := UInt8.lt_iff_toNat_lt.2 h1
      simp [h1, h2, h3]
    · by_cases h2 : b.toNat < a.toNat
      · have h3 : ¬ a < b := fun h => h1 (UInt8.lt_iff_toNat_lt.1 h)
        have h4 : ¬ a = b := fun h => by subst h; omega
        simp [h2, h3, h4]
      · have h4 : a = b := UInt8.toNat_inj.1 (by omega)
        subst h4
        simp [UInt8.lt_irrefl]

theorem mapD_put (l : DB) (n : List UInt8) (id : Nat) : (mapD l).put (.string n) (.lit (.int .i64 (id : Int))) = mapD (dwith l n id) := by
  have hf : ((l.map fun x => (Lit.string x.1, (DataW.lit (Lit.int .i64 (x.2 : Int)) : DataW Unit))).filter fun p => !p.1.sameKey (.string n)) = (dwithout l n).map fun x => (Lit.string x.1, DataW.lit (Lit.int .i64 (x.2 : Int))) := by
    unfold dwithout
    rw [List.filter_map]
    rfl
  have hi : ∀ r : DB, DataW.insert (Lit.string n, (DataW.lit (Lit.int .i64 (id : Int)) : DataW Unit)) (r.map fun x => (Lit.string x.1, DataW.lit (Lit.int .i64 (x.2 : Int)))) = (dput r n id).map fun x => (Lit.string x.1, DataW.lit (Lit.int .i64 (x.2 : Int))) := by
    intro r
    induction r with
    | nil => rfl
    | cons x r ih =>
      have hb : (Lit.string n).before (Lit.string x.1) = above x n := bytesBefore_cmpL n x.1
      simp only [List.map_cons, DataW.insert, dput]
      rw [hb]
      by_cases h : above x n = true
      · rw [if_pos h, if_pos h]; rfl
      · rw [if_neg h, if_neg h, ih]; rfl
  unfold mapD DataW.put dwith
  simp only
  rw [hf, hi]

theorem mapD_del (l : DB) (n : List UInt8) : (mapD l).del (.string n) = mapD (dwithout l n) := by
  unfold mapD DataW.del dwithout
  simp only
  rw [List.filter_map]
  rfl

theorem mapD_find (l : DB) (n : List UInt8) : ((l.map fun x => (Lit.string x.1, (DataW.lit (Lit.int .i64 (x.2 : Int)) : DataW Unit))).find? fun p => p.1.sameKey (.string n)) = (l.find? fun x => x.1 == n).map fun x => (Lit.string x.1, DataW.lit (Lit.int .i64 (x.2 : Int))) := by
  rw [List.find?_map]
  rfl

theorem mapD_has (l : DB) (n : List UInt8) : Maps.has (mapD l) (.string n) = (dfind l n).isSome := by
  unfold mapD
  rw [Maps.has_eq, List.any_map]
  unfold dfind
  rw [Option.isSome_map, List.isSome_find?]
  rfl

theorem mapD_at (l : DB) (n : List UInt8) (z : Int) : (mapD l).atKey (.string n) (.lit (.int .i64 z)) = .lit (.int .i64 (match dfind l n with | some id => (id : Int) | none => z)) := by
  unfold mapD DataW.atKey
  simp only
  rw [mapD_find]
  unfold dfind
  cases l.find? fun x => x.1 == n <;> rfl

theorem mapD_size (l : DB) : Maps.size (mapD l) = l.length := by simp [mapD, Maps.size]
theorem mapD_keys (l : DB) : strKeys (mapD l) = l.map (·.1) := by
  simp only [mapD, strKeys, List.map_map]
  rfl

/-- The map 'v' (nil or not) tells the names 'l'. -/
def Nm (w : World) (v : Value) (l : DB) : Prop := (v = .map none ∧ l = []) ∨ ∃ b, v = .map (some b) ∧ w.ownsMap Try.prog 9 (plainElem Try.prog 3) b l.length (mapD l)

theorem Nm.kept {R : Nat → Prop} {w w' : World} {v : Value} {l : DB} (h : Nm w v l) (hk : Kept R w w') (hR : ∀ k, mapBlock v = some k → R k) : Nm w' v l := by
  rcases h with h | ⟨b, rfl, hm⟩
  · exact .inl h
  · obtain ⟨es, clock, hb, r⟩ := hm
    exact .inr ⟨b, rfl, es, clock, (hk.block b (hR b rfl)).trans hb, r⟩

theorem Nm.lt {w : World} {v : Value} {l : DB} (h : Nm w v l) : ∀ k, mapBlock v = some k → k < w.heap.size := by
  intro k hk
  rcases h with ⟨rfl, _⟩ | ⟨b, rfl, hm⟩
  · cases hk
  · cases hk; exact hm.lt

/-- Names in order. -/
def Srt (l : DB) : Prop := l.Pairwise fun x y => bytesBefore x.1 y.1 = true

theorem srt_of_own {w : World} {b n : Nat} {l : DB} (h : w.ownsMap Try.prog 9 (plainElem Try.prog 3) b n (mapD l)) : Srt l := by
  obtain ⟨es, he, hp, _⟩ := h.canon (Maps.string_keyed Try.underlying9)
  unfold mapD at he
  cases he
  exact (List.pairwise_map.1 hp).imp fun h => h

theorem Nm.srt {w : World} {v : Value} {l : DB} (h : Nm w v l) : Srt l := by
  rcases h with ⟨_, rfl⟩ | ⟨b, _, hm⟩
  · exact List.Pairwise.nil
  · exact srt_of_own hm

/-! ### Whose block is whose. -/

inductive Role where
  | out | disk | files | names | safe | loose
  | fs (t : Nat) | fn (t : Nat) | fl (t : Nat)
  deriving DecidableEq

/-- A file's three slices, and a token of its own. -/
structure GF where
  tok : Nat
  vs : Value
  vn : Value
  vl : Value

def putCells (l : List (Nat × List UInt8)) : List Value := l.flatMap fun p => [.int .i64 (p.1 : Int), .string (strB p.2)]
def chCells (l : List PC) : List Value := l.flatMap fun c => [.int .i64 (c.kind : Int), .string (strB c.src), .string (strB c.dst), .int .i64 (c.file : Int)]
def gfCells (l : List (GF × PF)) : List Value := l.flatMap fun x => [x.1.vs, x.1.vn, x.1.vl]

structure FileAt (o : Nat → Role) (w : World) (g : GF) (f : PF) : Prop where
  vs : OwnB w 0 5 g.vs f.safe
  vn : OwnB w 0 5 g.vn f.now
  vl : w.ownsRow 0 63 2 g.vl f.loose.length (putCells f.loose)
  os : ∀ k, g.vs.ownBlock = some k → o k = .fs g.tok
  on : ∀ k, g.vn.ownBlock = some k → o k = .fn g.tok
  ol : ∀ k, g.vl.ownBlock = some k → o k = .fl g.tok

/-- What is not told by the plain disk: where it lies. -/
structure Gh where
  o : Nat → Role
  l : List (GF × PF)
  top : Nat
  fv : Value
  nv : Value
  sv : Value
  lv : Value

/-- The cells of the disk itself. -/
def dCells (g : Gh) (d : PD) : Array Value := #[.int .i64 d.room, .int .i64 d.crash, .bool d.done, .int .i64 (d.calls : Int), .bool d.down, g.fv, g.nv, g.sv, g.lv]

structure DiskAt (g : Gh) (w : World) (p : Nat) (d : PD) : Prop where
  blk : w.heap[p]? = some (.cells (dCells g d) 51 (0, 0))
  rol : g.o p = .disk
  fl : d.files = g.l.map (·.2)
  fa : ∀ x ∈ g.l, FileAt g.o w x.1 x.2
  nod : (g.l.map (·.1.tok)).Nodup
  lt : ∀ x ∈ g.l, x.1.tok < g.top
  otop : ∀ k t, g.o k = .fs t ∨ g.o k = .fn t ∨ g.o k = .fl t → t < g.top
  fr : w.ownsRow 0 59 3 g.fv g.l.length (gfCells g.l)
  of : ∀ k, g.fv.ownBlock = some k → g.o k = .files
  nr : Nm w g.nv d.names
  onm : ∀ k, mapBlock g.nv = some k → g.o k = .names
  sr : Nm w g.sv d.safe
  osf : ∀ k, mapBlock g.sv = some k → g.o k = .safe
  lr : w.ownsRow 0 67 4 g.lv d.loose.length (chCells d.loose)
  ol : ∀ k, g.lv.ownBlock = some k → g.o k = .loose
  olt : ∀ k, g.o k ≠ .out → k < w.heap.size

/-- The blocks of a disk. -/
def Gh.F (g : Gh) (k : Nat) : Prop := g.o k ≠ .out

theorem FileAt.kept {o : Nat → Role} {w w' : World} {g : GF} {f : PF} {R : Nat → Prop} (h : FileAt o w g f) (hk : Kept R w w') (hR : ∀ k, o k = .fs g.tok ∨ o k = .fn g.tok ∨ o k = .fl g.tok → R k) : FileAt o w' g f :=
  ⟨own_kept h.vs hk (fun k e => hR k (.inl (h.os k e))), own_kept h.vn hk (fun k e => hR k (.inr (.inl (h.on k e)))), own_kept h.vl hk (fun k e => hR k (.inr (.inr (h.ol k e)))), h.os, h.on, h.ol⟩

theorem FileAt.role {o o' : Nat → Role} {w : World} {g : GF} {f : PF} (h : FileAt o w g f) (ho : ∀ k, o k = .fs g.tok ∨ o k = .fn g.tok ∨ o k = .fl g.tok → o' k = o k) : FileAt o' w g f :=
  ⟨h.vs, h.vn, h.vl, fun k e => (ho k (.inl (h.os k e))).trans (h.os k e), fun k e => (ho k (.inr (.inl (h.on k e)))).trans (h.on k e), fun k e => (ho k (.inr (.inr (h.ol k e)))).trans (h.ol k e)⟩

/-- A disk stays what it is while others write. -/
theorem DiskAt.kept {g : Gh} {w w' : World} {p : Nat} {d : PD} {R : Nat → Prop} (h : DiskAt g w p d) (hk : Kept R w w') (hR : ∀ k, g.F k → R k) : DiskAt g w' p d where
  blk := (hk.block p (hR p (by unfold Gh.F; rw [h.rol]; decide))).trans h.blk
  rol := h.rol
  fl := h.fl
  fa x hx := (h.fa x hx).kept hk fun k e => hR k (by unfold Gh.F; rcases e with e | e | e <;> rw [e] <;> simp)
  nod := h.nod
  lt := h.lt
  otop := h.otop
  fr := own_kept h.fr hk fun k e => hR k (by unfold Gh.F; rw [h.of k e]; decide)
  of := h.of
  nr := h.nr.kept hk fun k e => hR k (by unfold Gh.F; rw [h.onm k e]; decide)
  onm := h.onm
  sr := h.sr.kept hk fun k e => hR k (by unfold Gh.F; rw [h.osf k e]; decide)
  osf := h.osf
  lr := own_kept h.lr hk fun k e => hR k (by unfold Gh.F; rw [h.ol k e]; decide)
  ol := h.ol
  olt k hk' := Nat.lt_of_lt_of_le (h.olt k hk') hk.size

theorem DiskAt.touch {g : Gh} {w w' : World} {p : Nat} {d : PD} {F : Nat → Prop} (h : DiskAt g w p d) (hk : Touch F w w') (hF : ∀ k, g.F k → ¬ F k) : DiskAt g w' p d :=
  h.kept (R := g.F) (Kept.mono hk fun k hk' => ⟨h.olt k hk', hF k hk'⟩) fun _ h => h

theorem DiskAt.below {g : Gh} {w w' : World} {p : Nat} {d : PD} (h : DiskAt g w p d) (hb : Below w.heap.size w w') : DiskAt g w' p d :=
  h.kept (R := g.F) (Kept.of hb fun k hk => h.olt k hk) fun _ h => h

theorem DiskAt.drew {g : Gh} {w : World} {p : Nat} {d : PD} (h : DiskAt g w p d) : DiskAt g w.drew p d := h.below (Below.refl _ _).drew

/-! ### What the program says of its types. -/
theorem info_u8 : (Try.prog.info? 5).map (fun i => (i.zero, i.size, i.bytes)) = some (some (.int .u8 0), 1, 1) := by kernel_rfl
theorem info_write : (Try.prog.info? 63).map (fun i => (i.zero, i.size, i.bytes)) = some (some (.agg #[.int .i64 0, .string ⟨#[]⟩]), 2, 24) := by kernel_rfl
theorem info_change : (Try.prog.info? 67).map (fun i => (i.zero, i.size, i.bytes)) = some (some (.agg #[.int .i64 0, .string ⟨#[]⟩, .string ⟨#[]⟩, .int .i64 0]), 4, 48) := by kernel_rfl
theorem info_file : (Try.prog.info? 59).map (fun i => (i.zero, i.size, i.bytes)) = some (some (.agg #[.slice none 0 0, .slice none 0 0, .slice none 0 0]), 3, 72) := by kernel_rfl

end Go.Proofs.Ytfeogoihkpclcaa

/-
  A region whose order is open, with two classes of worlds: operations that all the last ones wait for need yield their value only till these come up ('S1'); the others all along ('S2').
-/
namespace Go.Proofs.Ytfeogoihkpclcaa
open Go.RowKit
section
variable {P : Program} {ops : Array Oper} {Q : Exit → Act → World → Prop} {S1 S2 : World → Prop} {E : Nat → Bool}

/-- 'j' comes behind 'i', by so many edges at most. -/
def needs (ops : Array Oper) : Nat → Nat → Nat → Bool
  | 0, _, _ => false
  | n + 1, j, i => match ops[j]? with
    | some oj => oj.after.any fun e => Region.binds .any e && (e.on == i || needs ops n e.on i)
    | none => false

/-- What is listed, all that it waits for is listed. -/
def Closed (ops : Array Oper) (listed : Array Bool) : Prop := ∀ j oj, ops[j]? = some oj → listed.getD j false = true → ∀ e ∈ oj.after, Region.binds .any e = true → listed.getD e.on false = true

theorem needs_listed {listed : Array Bool} (hc : Closed ops listed) : ∀ (n j i : Nat) (oj : Oper), ops[j]? = some oj → (∀ e ∈ oj.after, Region.binds .any e = true → listed.getD e.on false = true) → needs ops n j i = true → listed.getD i false = true
  | 0, _, _, _, _, _, h => by cases h
  | n + 1, j, i, oj, hj, hall, h => by
    unfold needs at h
    rw [hj] at h
    obtain ⟨e, he, hb⟩ := Array.any_eq_true'.1 h
    simp only [Bool.and_eq_true, Bool.or_eq_true, beq_iff_eq] at hb
    have h1 := hall e he hb.1
    rcases hb.2 with h2 | h2
    · rw [← h2]; exact h1
    · cases ho : ops[e.on]? with
      | none =>
        cases n with
        | zero => cases h2
        | succ n => unfold needs at h2; rw [ho] at h2; cases h2
      | some oe => exact needs_listed hc n e.on i oe ho (fun e' he' hb' => hc e.on oe ho h1 e' he' hb') h2

theorem getD_true_false {listed : Array Bool} {i : Nat} (h : listed.getD i true = false) : listed.getD i false = false := by
  rcases Nat.lt_or_ge i listed.size with h' | h'
  · simp [h'] at h ⊢; exact h
  · simp [Array.getElem?_eq_none h'] at h

theorem Closed.set {listed : Array Bool} {i : Nat} (hc : Closed ops listed) (hi : i ∈ Region.ready .any ops listed) : Closed ops (listed.setIfInBounds i true) := by
  obtain ⟨_, oi, hoi, hall⟩ := mem_ready.1 hi
  intro j oj hj hl e he hb
  by_cases hij : i = j
  · subst hij
    have : oj = oi := Option.some.inj (hj.symm.trans hoi)
    subst this
    exact getD_set_true (hall e he hb)
  · rw [getD_set_ne false hij] at hl
    exact getD_set_true (hc j oj hj hl e he hb)

theorem Closed.start (n : Nat) : Closed ops (Array.replicate n false) := by
  intro j oj _ hl
  rcases Nat.lt_or_ge j n with h | h
  · simp [h] at hl
  · simp [h] at hl

/-- None of the last ones has come up. -/
def NoE (E : Nat → Bool) (listed : Array Bool) : Prop := ∀ j, E j = true → listed.getD j false = false

theorem getD_set_false {listed : Array Bool} {i j : Nat} (h : (listed.setIfInBounds i true).getD j false = false) : listed.getD j false = false := by
  cases hl : listed.getD j false with
  | false => rfl
  | true => rw [getD_set_true hl] at h; cases h

theorem NoE.unset {listed : Array Bool} {i : Nat} (h : NoE E (listed.setIfInBounds i true)) : NoE E listed := fun j hj => getD_set_false (h j hj)
theorem NoE.set {listed : Array Bool} {i : Nat} (h : NoE E listed) (hi : E i = false) : NoE E (listed.setIfInBounds i true) := fun j hj => by
  rw [getD_set_ne false (by rintro rfl; rw [hi] at hj; cases hj)]
  exact h j hj

/-- Whatever order is picked: 'S2' behind every operation, 'S1' till the last ones come up. -/
def wpAny2 (P : Program) (ops : Array Oper) (Q : Exit → Act → World → Prop) (S1 S2 : World → Prop) (E : Nat → Bool) : Nat → Array Bool → Act → World → Prop
  | 0, listed, a, w => Region.ready .any ops listed = [] ∧ Q .normal a w
  | fuel + 1, listed, a, w =>
    (Region.ready .any ops listed = [] → Q .normal a w) ∧
    ∀ i ∈ Region.ready .any ops listed, wpOp P ops Q i (fun a' w' => (S2 w' ∧ (NoE E (listed.setIfInBounds i true) → S1 w')) ∧ wpAny2 P ops Q S1 S2 E fuel (listed.setIfInBounds i true) a' w') a w

theorem wpAny_of_two : ∀ (fuel : Nat) (listed : Array Bool) (a : Act) (w : World), wpAny2 P ops Q S1 S2 E fuel listed a w → wpAny P .any ops Q fuel listed a w
  | 0, _, _, _, h => h
  | fuel + 1, _, _, _, h => ⟨h.1, fun i hi => wpOp_mono (fun a' w' h' => wpAny_of_two fuel _ a' w' h'.2) (h.2 i hi)⟩

/-- All the last ones wait for 'i'. -/
def AllNeed (ops : Array Oper) (E : Nat → Bool) (i : Nat) : Prop := ∀ j, E j = true → needs ops ops.size j i = true

theorem first1 {i : Nat} {oi : Oper} {v : Value} (hi : ops[i]? = some oi) (hsel : ∀ (j : Nat) (o : Oper) cs b, ops[j]? = some o → o.op ≠ .select cs b)
    (hQ : ∀ c a w, Q (.panic c) (a.put oi.dst v) w → Q (.panic c) a w) (hEi : E i = false) (hE : AllNeed ops E i) :
    ∀ (fuel : Nat) (listed : Array Bool) (a : Act) (w : World), Closed ops listed →
      (∀ j oj, ops[j]? = some oj → j ≠ i → listed.getD j true = false → (∀ e ∈ oj.after, Region.binds .any e = true → e.on ≠ i) → oi.apart ops oj = true) →
      i ∈ Region.ready .any ops listed → YieldsIf P ops S1 oi v a → S2 w → S1 w →
      wpAny2 P ops Q S1 S2 E fuel (listed.setIfInBounds i true) (a.put oi.dst v) w → wpAny2 P ops Q S1 S2 E (fuel + 1) listed a w := by
  intro fuel
  induction fuel with
  | zero =>
    intro listed a w _ _ hr hy hS2 hS1 H
    refine ⟨fun h => (by rw [h] at hr; cases hr), fun j hj => ?_⟩
    by_cases hji : j = i
    · subst hji; exact hy.wpOp hi hS1 ⟨⟨hS2, fun _ => hS1⟩, H⟩
    · have := ready_mono hj hji
      rw [H.1] at this
      cases this
  | succ fuel ih =>
    intro listed a w hc hfree hr hy hS2 hS1 H
    refine ⟨fun h => (by rw [h] at hr; cases hr), fun j hj => ?_⟩
    by_cases hji : j = i
    · subst hji; exact hy.wpOp hi hS1 ⟨⟨hS2, fun _ => hS1⟩, H⟩
    · have h1 := H.2 j (ready_mono hj hji)
      obtain ⟨hjun, oj, hoj, hall⟩ := mem_ready.1 hj
      have hun := (mem_ready.1 hr).1
      have hnot : ∀ e ∈ oj.after, Region.binds .any e = true → e.on ≠ i := fun e he hb heq => by
        have h1 := hall e he hb
        rw [heq, getD_true_false hun] at h1
        cases h1
      have hnE : ∀ k, E k = true → listed.getD k false = false := fun k hk => by
        cases hl : listed.getD k false with
        | false => rfl
        | true =>
          cases ho : ops[k]? with
          | none =>
            have := hE k hk
            cases hsz : ops.size with
            | zero => rw [hsz] at this; cases this
            | succ m => rw [hsz] at this; unfold needs at this; rw [ho] at this; cases this
          | some ok =>
            have := needs_listed hc _ k i ok ho (fun e he hb => hc k ok ho hl e he hb) (hE k hk)
            rw [getD_true_false hun] at this
            cases this
      have hEj : E j = false := by
        cases hEj : E j with
        | false => rfl
        | true =>
          have := needs_listed hc _ j i oj hoj hall (hE j hEj)
          rw [getD_true_false hun] at this
          cases this
      have hnj : NoE E (listed.setIfInBounds j true) := NoE.set hnE hEj
      have h2 := wpOp_putIf hoj (hfree j oj hoj hji hjun hnot) (fun cs b => hsel i oi cs b hi) (fun cs b => hsel j oj cs b hoj) hQ hy h1
      have hfree' : ∀ k ok, ops[k]? = some ok → k ≠ i → (listed.setIfInBounds j true).getD k true = false →
          (∀ e ∈ ok.after, Region.binds .any e = true → e.on ≠ i) → oi.apart ops ok = true := fun k ok hk hki hun hno => by
        refine hfree k ok hk hki ?_ hno
        by_cases hjk : j = k
        · subst hjk; exact hjun
        · rw [getD_set_ne true hjk] at hun; exact hun
      have hsw : ∀ w', (NoE E ((listed.setIfInBounds i true).setIfInBounds j true) → S1 w') → NoE E (listed.setIfInBounds j true) → S1 w' := fun w' h hn => h (by
        rw [Array.setIfInBounds_comm _ _ (Ne.symm hji)]
        exact hn.set hEi)
      refine wpOp_mono (fun a' w' h3 => ⟨⟨h3.2.1.1, hsw w' h3.2.1.2⟩, ih (listed.setIfInBounds j true) a' w' (hc.set hj) hfree' (ready_mono hr (Ne.symm hji)) h3.1 h3.2.1.1 (hsw w' h3.2.1.2 hnj) ?_⟩) h2
      rw [Array.setIfInBounds_comm _ _ hji]
      exact h3.2.2

theorem first2 {i : Nat} {oi : Oper} {v : Value} (hi : ops[i]? = some oi) (hsel : ∀ (j : Nat) (o : Oper) cs b, ops[j]? = some o → o.op ≠ .select cs b)
    (hQ : ∀ c a w, Q (.panic c) (a.put oi.dst v) w → Q (.panic c) a w) (hEi : E i = false) :
    ∀ (fuel : Nat) (listed : Array Bool) (a : Act) (w : World), Closed ops listed →
      (∀ j oj, ops[j]? = some oj → j ≠ i → listed.getD j true = false → (∀ e ∈ oj.after, Region.binds .any e = true → e.on ≠ i) → oi.apart ops oj = true) →
      i ∈ Region.ready .any ops listed → YieldsIf P ops S2 oi v a → S2 w → (NoE E listed → S1 w) →
      wpAny2 P ops Q S1 S2 E fuel (listed.setIfInBounds i true) (a.put oi.dst v) w → wpAny2 P ops Q S1 S2 E (fuel + 1) listed a w := by
  intro fuel
  induction fuel with
  | zero =>
    intro listed a w _ _ hr hy hS2 hS1 H
    refine ⟨fun h => (by rw [h] at hr; cases hr), fun j hj => ?_⟩
    by_cases hji : j = i
    · subst hji; exact hy.wpOp hi hS2 ⟨⟨hS2, fun hn => hS1 hn.unset⟩, H⟩
    · have := ready_mono hj hji
      rw [H.1] at this
      cases this
  | succ fuel ih =>
    intro listed a w hc hfree hr hy hS2 hS1 H
    refine ⟨fun h => (by rw [h] at hr; cases hr), fun j hj => ?_⟩
    by_cases hji : j = i
    · subst hji; exact hy.wpOp hi hS2 ⟨⟨hS2, fun hn => hS1 hn.unset⟩, H⟩
    · have h1 := H.2 j (ready_mono hj hji)
      obtain ⟨hjun, oj, hoj, hall⟩ := mem_ready.1 hj
      have hun := (mem_ready.1 hr).1
      have hnot : ∀ e ∈ oj.after, Region.binds .any e = true → e.on ≠ i := fun e he hb heq => by
        have h1 := hall e he hb
        rw [heq, getD_true_false hun] at h1
        cases h1
      have h2 := wpOp_putIf hoj (hfree j oj hoj hji hjun hnot) (fun cs b => hsel i oi cs b hi) (fun cs b => hsel j oj cs b hoj) hQ hy h1
      have hfree' : ∀ k ok, ops[k]? = some ok → k ≠ i → (listed.setIfInBounds j true).getD k true = false →
          (∀ e ∈ ok.after, Region.binds .any e = true → e.on ≠ i) → oi.apart ops ok = true := fun k ok hk hki hun hno => by
        refine hfree k ok hk hki ?_ hno
        by_cases hjk : j = k
        · subst hjk; exact hjun
        · rw [getD_set_ne true hjk] at hun; exact hun
      have hsw : ∀ w', (NoE E ((listed.setIfInBounds i true).setIfInBounds j true) → S1 w') → NoE E (listed.setIfInBounds j true) → S1 w' := fun w' h hn => h (by
        rw [Array.setIfInBounds_comm _ _ (Ne.symm hji)]
        exact hn.set hEi)
      refine wpOp_mono (fun a' w' h3 => ⟨⟨h3.2.1.1, hsw w' h3.2.1.2⟩, ih (listed.setIfInBounds j true) a' w' (hc.set hj) hfree' (ready_mono hr (Ne.symm hji)) h3.1 h3.2.1.1 (hsw w' h3.2.1.2) ?_⟩) h2
      rw [Array.setIfInBounds_comm _ _ hji]
      exact h3.2.2

/-! ### The plan: 0: taken first, all the last ones wait for it; 1: taken first; 2: carried out where nothing else can come up; 3: one of the last ones, carried out. -/

def PlanT (P : Program) (ops : Array Oper) (Q : Exit → Act → World → Prop) (S1 S2 : World → Prop) : List (Nat × Oper) → Act → World → Prop
  | [], a, w => Q .normal a w
  | (0, o) :: r, a, w => ∃ v : Value, YieldsIf P ops S1 o v a ∧ PlanT P ops Q S1 S2 r (a.put o.dst v) w
  | (1, o) :: r, a, w => ∃ v : Value, YieldsIf P ops S2 o v a ∧ PlanT P ops Q S1 S2 r (a.put o.dst v) w
  | (2, o) :: r, a, w => if Region.wanted o (yielded ops a.tmps) then o.wp P a w (fun a' w' => (S2 w' ∧ S1 w') ∧ PlanT P ops Q S1 S2 r a' w') Q ∨ (o.asks P a w ∧ LetsOut Q) else PlanT P ops Q S1 S2 r (a.put o.dst undef) w
  | (_ + 3, o) :: r, a, w => if Region.wanted o (yielded ops a.tmps) then o.wp P a w (fun a' w' => S2 w' ∧ PlanT P ops Q S1 S2 r a' w') Q ∨ (o.asks P a w ∧ LetsOut Q) else PlanT P ops Q S1 S2 r (a.put o.dst undef) w

/-- The operations that are the last ones. -/
def lastOf (p : List (Nat × Nat)) : Nat → Bool := fun j => p.any fun x => x.1 == 3 && x.2 == j

def planT (l : List Oper) : List (Nat × Nat) → List (Nat × Oper)
  | [] => []
  | (b, i) :: r => match l.drop i with
    | o :: _ => (b, o) :: planT l r
    | [] => planT l r

/-- May it go so? ('b': the last ones have begun.) -/
def planTB (ops : Array Oper) (E : List Nat) : Bool → List (Nat × Nat) → Array Bool → Bool
  | _, [], listed => (Region.ready .any ops listed).isEmpty
  | b, (0, i) :: r, listed => !b && Region.free .any ops listed i && (Region.ready .any ops listed).contains i && !E.contains i && E.all (fun j => needs ops ops.size j i) && planTB ops E b r (listed.setIfInBounds i true)
  | b, (1, i) :: r, listed => Region.free .any ops listed i && (Region.ready .any ops listed).contains i && !E.contains i && planTB ops E b r (listed.setIfInBounds i true)
  | b, (2, i) :: r, listed => !b && !E.contains i && (Region.ready .any ops listed == [i]) && planTB ops E b r (listed.setIfInBounds i true)
  | _, (_ + 3, i) :: r, listed => E.contains i && (Region.ready .any ops listed == [i]) && planTB ops E true r (listed.setIfInBounds i true)

theorem planT_sound {l : List Oper} {EL : List Nat} (hs : Region.noSelect l.toArray = true) (hQ : ∀ (c : List PanicEntry) (a a' : Act) (w : World), Q (.panic c) a' w → Q (.panic c) a w) :
    ∀ (p : List (Nat × Nat)) (b : Bool) (listed : Array Bool) (a : Act) (w : World), Closed l.toArray listed → S2 w → (b = false → S1 w) → (b = true → ∃ j, EL.contains j = true ∧ listed.getD j false = true) → (p.all fun x => decide (x.2 < l.length)) = true → planTB l.toArray EL b p listed = true → (listed.size = l.length) →
      PlanT P l.toArray Q S1 S2 (planT l p) a w → wpAny2 P l.toArray Q S1 S2 (fun j => EL.contains j) p.length listed a w
  | [], b, listed, a, w, _, _, _, _, _, hb, _, h => by
    have hb' : Region.ready .any l.toArray listed = [] := by simpa [planTB] using hb
    exact ⟨hb', h⟩
  | (k, i) :: r, b, listed, a, w, hc, hS2, hS1, hE, hi, hb, hz, h => by
    simp only [List.all_cons, Bool.and_eq_true, decide_eq_true_eq] at hi
    have hz' : (listed.setIfInBounds i true).size = l.length := by simpa using hz
    have hset : (listed.setIfInBounds i true).getD i false = true := by simp [hz, hi.1]
    have hS1' : NoE (fun j => EL.contains j) listed → S1 w := fun hn => by
      cases b with
      | false => exact hS1 rfl
      | true =>
        obtain ⟨j, h1, h2⟩ := hE rfl
        rw [hn j h1] at h2
        cases h2
    unfold planT at h
    split at h
    case h_2 hd =>
      have := congrArg List.length hd
      simp at this
      omega
    case h_1 o t hd =>
      match k, h, hb with
      | 0, h, hb =>
        simp only [planTB, Bool.and_eq_true, Bool.not_eq_true', List.all_eq_true] at hb
        obtain ⟨v, hy, h⟩ := h
        obtain ⟨⟨⟨⟨⟨hb0, hb1⟩, hb2⟩, hb3⟩, hb4⟩, hb5⟩ := hb
        subst hb0
        have hr : i ∈ Region.ready .any l.toArray listed := by simpa using hb2
        exact first1 (drop_head hd) (Region.noSelect_spec hs) (fun c a w h => hQ c _ _ w h) hb3 (fun j hj => hb4 j (by simpa using hj)) _ listed a w hc (Region.free_spec (drop_head hd) hb1) hr hy hS2 (hS1 rfl)
          (planT_sound hs hQ r _ _ _ w (hc.set hr) hS2 hS1 (fun h => by cases h) hi.2 hb5 hz' h)
      | 1, h, hb =>
        simp only [planTB, Bool.and_eq_true, Bool.not_eq_true'] at hb
        obtain ⟨v, hy, h⟩ := h
        obtain ⟨⟨⟨hb1, hb2⟩, hb3⟩, hb5⟩ := hb
        have hr : i ∈ Region.ready .any l.toArray listed := by simpa using hb2
        exact first2 (drop_head hd) (Region.noSelect_spec hs) (fun c a w h => hQ c _ _ w h) hb3 _ listed a w hc (Region.free_spec (drop_head hd) hb1) hr hy hS2 hS1'
          (planT_sound hs hQ r b _ _ w (hc.set hr) hS2 hS1 (fun h => by obtain ⟨j, h1, h2⟩ := hE h; exact ⟨j, h1, getD_set_true h2⟩) hi.2 hb5 hz' h)
      | 2, h, hb =>
        simp only [planTB, Bool.and_eq_true, Bool.not_eq_true', beq_iff_eq] at hb
        obtain ⟨⟨⟨hb0, hb3⟩, hb2⟩, hb5⟩ := hb
        subst hb0
        have hr : i ∈ Region.ready .any l.toArray listed := by rw [hb2]; simp
        refine ⟨fun h0 => by (rw [h0] at hr; cases hr), fun j hj => ?_⟩
        obtain rfl : j = i := by rw [hb2] at hj; simpa using hj
        unfold wpOp
        rw [drop_head hd]
        simp only
        unfold PlanT at h
        split at h
        · rename_i hw
          rw [if_pos hw]
          exact h.imp (fun h => Oper.wp_mono (fun a' w' ⟨⟨h2, h1⟩, hp⟩ => ⟨⟨h2, fun _ => h1⟩, planT_sound hs hQ r _ _ a' w' (hc.set hr) h2 (fun _ => h1) (fun h => by cases h) hi.2 hb5 hz' hp⟩) h) id
        · rename_i hw
          rw [if_neg hw]
          exact ⟨⟨hS2, fun _ => hS1 rfl⟩, planT_sound hs hQ r _ _ _ w (hc.set hr) hS2 hS1 (fun h => by cases h) hi.2 hb5 hz' h⟩
      | k + 3, h, hb =>
        simp only [planTB, Bool.and_eq_true, beq_iff_eq] at hb
        obtain ⟨⟨hb3, hb2⟩, hb5⟩ := hb
        have hr : i ∈ Region.ready .any l.toArray listed := by rw [hb2]; simp
        have hno : ¬ NoE (fun j => EL.contains j) (listed.setIfInBounds i true) := fun hn => by
          have := hn i hb3
          rw [hset] at this
          cases this
        refine ⟨fun h0 => by (rw [h0] at hr; cases hr), fun j hj => ?_⟩
        obtain rfl : j = i := by rw [hb2] at hj; simpa using hj
        unfold wpOp
        rw [drop_head hd]
        simp only
        unfold PlanT at h
        split at h
        · rename_i hw
          rw [if_pos hw]
          exact h.imp (fun h => Oper.wp_mono (fun a' w' ⟨h2, hp⟩ => ⟨⟨h2, fun hn => absurd hn hno⟩, planT_sound hs hQ r true _ a' w' (hc.set hr) h2 (fun h => by cases h) (fun _ => ⟨j, hb3, hset⟩) hi.2 hb5 hz' hp⟩) h) id
        · rename_i hw
          rw [if_neg hw]
          exact ⟨⟨hS2, fun hn => absurd hn hno⟩, planT_sound hs hQ r true _ _ w (hc.set hr) hS2 (fun h => by cases h) (fun _ => ⟨j, hb3, hset⟩) hi.2 hb5 hz' h⟩

/-- **The region**, by a plan; 'EL': the last ones. (It must be shown not to panic.) -/
theorem wp_region_two {l : List Oper} {id : Nat} {a : Act} {w : World} (S1 S2 : World → Prop) (p : List (Nat × Nat)) (EL : List Nat) (hm : P.follows .mixedOrders = true) (hs : Region.noSelect l.toArray = true) (hn : (p.length == l.toArray.size) = true)
    (hi : (p.all fun x => decide (x.2 < l.length)) = true) (hb : planTB l.toArray EL false p (Array.replicate l.toArray.size false) = true) (h1 : S1 w.drew) (h2 : S2 w.drew)
    (h : PlanT P l.toArray (NoPanic Q) S1 S2 (planT l p) a w.drew) : (Code.region id l.toArray true).wp P Q a w := by
  refine wp_region_noPanic ?_
  refine wp_region_any hm ?_
  have h1 := planT_sound (S1 := S1) (S2 := S2) (EL := EL) hs (Q := NoPanic Q) (fun _ _ _ _ h => h) p false _ a w.drew (Closed.start _) h2 (fun _ => h1) (fun h => by cases h) hi hb (by simp) h
  rw [beq_iff_eq.1 hn] at h1
  exact wpAny_of_two _ _ _ _ h1

theorem PlanT.take0 {o : Oper} {r : List (Nat × Oper)} {a : Act} {w : World} {v : Value} (hw : Region.wanted o (yielded ops a.tmps) = true)
    (hy : ∀ w', S1 w' → (execOp a.eval o).run P w' = .ok (.value v) w') (h : PlanT P ops Q S1 S2 r (a.put o.dst v) w) : PlanT P ops Q S1 S2 ((0, o) :: r) a w :=
  ⟨v, .inl ⟨hw, hy⟩, h⟩
theorem PlanT.take1 {o : Oper} {r : List (Nat × Oper)} {a : Act} {w : World} {v : Value} (hw : Region.wanted o (yielded ops a.tmps) = true)
    (hy : ∀ w', S2 w' → (execOp a.eval o).run P w' = .ok (.value v) w') (h : PlanT P ops Q S1 S2 r (a.put o.dst v) w) : PlanT P ops Q S1 S2 ((1, o) :: r) a w :=
  ⟨v, .inl ⟨hw, hy⟩, h⟩
theorem PlanT.skip {k : Nat} {o : Oper} {r : List (Nat × Oper)} {a : Act} {w : World} (hw : Region.wanted o (yielded ops a.tmps) = false)
    (h : PlanT P ops Q S1 S2 r (a.put o.dst undef) w) : PlanT P ops Q S1 S2 ((k, o) :: r) a w := by
  match k with
  | 0 => exact ⟨undef, .inr ⟨hw, rfl⟩, h⟩
  | 1 => exact ⟨undef, .inr ⟨hw, rfl⟩, h⟩
  | 2 => unfold PlanT; rw [if_neg (by rw [hw]; simp)]; exact h
  | k + 3 => unfold PlanT; rw [if_neg (by rw [hw]; simp)]; exact h
theorem PlanT.exec2 {o : Oper} {r : List (Nat × Oper)} {a : Act} {w : World}
    (h : ∀ K : Act → World → Prop, Shut (∀ a w', S1 w' → S2 w' → PlanT P ops Q S1 S2 r a w' → K a w') → Region.wanted o (yielded ops a.tmps) = true ∧ Oper.wp P o a w K Q) : PlanT P ops Q S1 S2 ((2, o) :: r) a w := by
  have := h (fun a' w' => (S2 w' ∧ S1 w') ∧ PlanT P ops Q S1 S2 r a' w') (fun a w' h1 h2 hT => ⟨⟨h2, h1⟩, hT⟩)
  unfold PlanT
  rw [if_pos this.1]
  exact .inl this.2
theorem PlanT.exec3 {o : Oper} {r : List (Nat × Oper)} {a : Act} {w : World}
    (h : ∀ K : Act → World → Prop, Shut (∀ a w', S2 w' → PlanT P ops Q S1 S2 r a w' → K a w') → Region.wanted o (yielded ops a.tmps) = true ∧ Oper.wp P o a w K Q) : PlanT P ops Q S1 S2 ((3, o) :: r) a w := by
  have := h (fun a' w' => S2 w' ∧ PlanT P ops Q S1 S2 r a' w') (fun a w' h2 hT => ⟨h2, hT⟩)
  unfold PlanT
  rw [if_pos this.1]
  exact .inl this.2
theorem PlanT.done {a : Act} {w : World} (h : Q .normal a w) : PlanT P ops Q S1 S2 [] a w := h
end
end Go.Proofs.Ytfeogoihkpclcaa
