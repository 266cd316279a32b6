/-
  The program's disk in memory: whose block is whose; what stays while others write.
-/
import Derived.Test.YtmlijnekidihbaaCells
import Derived.Test.YtmlijnekidihbaaDiskModel
import Derived.Test.YtmlijnekidihbaaProg
import Derived.Maps.OwnSet
import Derived.Maps.Ext
import Derived.Sort.KeysCollected
namespace Go.Proofs.Ytmlijnekidihbaa
open Go.RowKit

/-- A file as the program keeps it. -/
structure PF where
  safe : List UInt8
  now : List UInt8
  loose : List (Nat × List UInt8)

/-- A change of names as the program keeps it. -/
structure PC where
  kind : Nat
  src : List UInt8
  dst : List UInt8
  file : Nat

/-- A disk as the program keeps it. -/
structure PD where
  room : Int
  crash : Int
  done : Bool
  calls : Nat
  down : Bool
  files : List PF
  names : DB
  safe : DB
  loose : List PC

/-! ### Maps of names. -/

def mapD (l : DB) : DataW Unit := .map (l.map fun x => (Lit.string x.1, DataW.lit (Lit.int .i64 (x.2 : Int))))

theorem bytesBefore_cmpL : ∀ a b : List UInt8, bytesBefore a b = (cmpL b a == 1)
  | [], [] => rfl
  | [], _ :: _ => rfl
  | _ :: _, [] => rfl
  | a :: r, b :: t => by
    have ih := bytesBefore_cmpL r t
    unfold bytesBefore cmpL
    rw [ih]
    by_cases h1 : a.toNat < b.toNat
    · have h2 : ¬ b.toNat < a.toNat := by omega
      have h3 : a < b := UInt8.lt_iff_toNat_lt.2 h1
      simp [h1, h2, h3]
    · by_cases h2 : b.toNat < a.toNat
      · have h3 : ¬ a < b := fun h => h1 (UInt8.lt_iff_toNat_lt.1 h)
        have h4 : ¬ a = b := fun h => by subst h; omega
        simp [h2, h3, h4]
      · have h4 : a = b := UInt8.toNat_inj.1 (by omega)
        subst h4
        simp [UInt8.lt_irrefl]

theorem mapD_put (l : DB) (n : List UInt8) (id : Nat) : (mapD l).put (.string n) (.lit (.int .i64 (id : Int))) = mapD (dwith l n id) := by
  have hf : ((l.map fun x => (Lit.string x.1, (DataW.lit (Lit.int .i64 (x.2 : Int)) : DataW Unit))).filter fun p => !p.1.sameKey (.string n)) = (dwithout l n).map fun x => (Lit.string x.1, DataW.lit (Lit.int .i64 (x.2 : Int))) := by
    unfold dwithout
    rw [List.filter_map]
    rfl
  have hi : ∀ r : DB, DataW.insert (Lit.string n, (DataW.lit (Lit.int .i64 (id : Int)) : DataW Unit)) (r.map fun x => (Lit.string x.1, DataW.lit (Lit.int .i64 (x.2 : Int)))) = (dput r n id).map fun x => (Lit.string x.1, DataW.lit (Lit.int .i64 (x.2 : Int))) := by
    intro r
    induction r with
    | nil => rfl
    | cons x r ih =>
      have hb : (Lit.string n).before (Lit.string x.1) = above x n := bytesBefore_cmpL n x.1
      simp only [List.map_cons, DataW.insert, dput]
      rw [hb]
      by_cases h : above x n = true
      · rw [if_pos h, if_pos h]; rfl
      · rw [if_neg h, if_neg h, ih]; rfl
  unfold mapD DataW.put dwith
  simp only
  rw [hf, hi]

theorem mapD_del (l : DB) (n : List UInt8) : (mapD l).del (.string n) = mapD (dwithout l n) := by
  unfold mapD DataW.del dwithout
  simp only
  rw [List.filter_map]
  rfl

theorem mapD_find (l : DB) (n : List UInt8) : ((l.map fun x => (Lit.string x.1, (DataW.lit (Lit.int .i64 (x.2 : Int)) : DataW Unit))).find? fun p => p.1.sameKey (.string n)) = (l.find? fun x => x.1 == n).map fun x => (Lit.string x.1, DataW.lit (Lit.int .i64 (x.2 : Int))) := by
  rw [List.find?_map]
  rfl

theorem mapD_has (l : DB) (n : List UInt8) : Maps.has (mapD l) (.string n) = (dfind l n).isSome := by
  unfold mapD
  rw [Maps.has_eq, List.any_map]
  unfold dfind
  rw [Option.isSome_map, List.isSome_find?]
  rfl

theorem mapD_at (l : DB) (n : List UInt8) (z : Int) : (mapD l).atKey (.string n) (.lit (.int .i64 z)) = .lit (.int .i64 (match dfind l n with | some id => (id : Int) | none => z)) := by
  unfold mapD DataW.atKey
  simp only
  rw [mapD_find]
  unfold dfind
  cases l.find? fun x => x.1 == n <;> rfl

theorem mapD_size (l : DB) : Maps.size (mapD l) = l.length := by simp [mapD, Maps.size]
theorem mapD_keys (l : DB) : strKeys (mapD l) = l.map (·.1) := by
  simp only [mapD, strKeys, List.map_map]
  rfl

/-- The map 'v' (nil or not) tells the names 'l'. -/
def Nm (w : World) (v : Value) (l : DB) : Prop := (v = .map none ∧ l = []) ∨ ∃ b, v = .map (some b) ∧ w.ownsMap Try.prog 9 (plainElem Try.prog 3) b l.length (mapD l)

theorem Nm.kept {R : Nat → Prop} {w w' : World} {v : Value} {l : DB} (h : Nm w v l) (hk : Kept R w w') (hR : ∀ k, mapBlock v = some k → R k) : Nm w' v l := by
  rcases h with h | ⟨b, rfl, hm⟩
  · exact .inl h
  · obtain ⟨es, clock, hb, r⟩ := hm
    exact .inr ⟨b, rfl, es, clock, (hk.block b (hR b rfl)).trans hb, r⟩

theorem Nm.lt {w : World} {v : Value} {l : DB} (h : Nm w v l) : ∀ k, mapBlock v = some k → k < w.heap.size := by
  intro k hk
  rcases h with ⟨rfl, _⟩ | ⟨b, rfl, hm⟩
  · cases hk
  · cases hk; exact hm.lt

/-- Names in order. -/
def Srt (l : DB) : Prop := l.Pairwise fun x y => bytesBefore x.1 y.1 = true

theorem srt_of_own {w : World} {b n : Nat} {l : DB} (h : w.ownsMap Try.prog 9 (plainElem Try.prog 3) b n (mapD l)) : Srt l := by
  obtain ⟨es, he, hp, _⟩ := h.canon (Maps.string_keyed Try.underlying9)
  unfold mapD at he
  cases he
  exact (List.pairwise_map.1 hp).imp fun h => h

theorem Nm.srt {w : World} {v : Value} {l : DB} (h : Nm w v l) : Srt l := by
  rcases h with ⟨_, rfl⟩ | ⟨b, _, hm⟩
  · exact List.Pairwise.nil
  · exact srt_of_own hm

/-! ### Whose block is whose. -/

inductive Role where
  | out | disk | files | names | safe | loose
  | fs (t : Nat) | fn (t : Nat) | fl (t : Nat)
  deriving DecidableEq

/-- A file's three slices, and a token of its own. -/
structure GF where
  tok : Nat
  vs : Value
  vn : Value
  vl : Value

def putCells (l : List (Nat × List UInt8)) : List Value := l.flatMap fun p => [.int .i64 (p.1 : Int), .string (strB p.2)]
def chCells (l : List PC) : List Value := l.flatMap fun c => [.int .i64 (c.kind : Int), .string (strB c.src), .string (strB c.dst), .int .i64 (c.file : Int)]
def gfCells (l : List (GF × PF)) : List Value := l.flatMap fun x => [x.1.vs, x.1.vn, x.1.vl]

structure FileAt (o : Nat → Role) (w : World) (g : GF) (f : PF) : Prop where
  vs : OwnB w 0 5 g.vs f.safe
  vn : OwnB w 0 5 g.vn f.now
  vl : w.ownsRow 0 96 2 g.vl f.loose.length (putCells f.loose)
  os : ∀ k, g.vs.ownBlock = some k → o k = .fs g.tok
  on : ∀ k, g.vn.ownBlock = some k → o k = .fn g.tok
  ol : ∀ k, g.vl.ownBlock = some k → o k = .fl g.tok

/-- What is not told by the plain disk: where it lies. -/
structure Gh where
  o : Nat → Role
  l : List (GF × PF)
  top : Nat
  fv : Value
  nv : Value
  sv : Value
  lv : Value

/-- The cells of the disk itself. -/
def dCells (g : Gh) (d : PD) : Array Value := #[.int .i64 d.room, .int .i64 d.crash, .bool d.done, .int .i64 (d.calls : Int), .bool d.down, g.fv, g.nv, g.sv, g.lv]

structure DiskAt (g : Gh) (w : World) (p : Nat) (d : PD) : Prop where
  blk : w.heap[p]? = some (.cells (dCells g d) 60 (0, 0))
  rol : g.o p = .disk
  fl : d.files = g.l.map (·.2)
  fa : ∀ x ∈ g.l, FileAt g.o w x.1 x.2
  nod : (g.l.map (·.1.tok)).Nodup
  lt : ∀ x ∈ g.l, x.1.tok < g.top
  otop : ∀ k t, g.o k = .fs t ∨ g.o k = .fn t ∨ g.o k = .fl t → t < g.top
  fr : w.ownsRow 0 93 3 g.fv g.l.length (gfCells g.l)
  of : ∀ k, g.fv.ownBlock = some k → g.o k = .files
  nr : Nm w g.nv d.names
  onm : ∀ k, mapBlock g.nv = some k → g.o k = .names
  sr : Nm w g.sv d.safe
  osf : ∀ k, mapBlock g.sv = some k → g.o k = .safe
  lr : w.ownsRow 0 72 4 g.lv d.loose.length (chCells d.loose)
  ol : ∀ k, g.lv.ownBlock = some k → g.o k = .loose
  olt : ∀ k, g.o k ≠ .out → k < w.heap.size

/-- The blocks of a disk. -/
def Gh.F (g : Gh) (k : Nat) : Prop := g.o k ≠ .out

theorem FileAt.kept {o : Nat → Role} {w w' : World} {g : GF} {f : PF} {R : Nat → Prop} (h : FileAt o w g f) (hk : Kept R w w') (hR : ∀ k, o k = .fs g.tok ∨ o k = .fn g.tok ∨ o k = .fl g.tok → R k) : FileAt o w' g f :=
  ⟨own_kept h.vs hk (fun k e => hR k (.inl (h.os k e))), own_kept h.vn hk (fun k e => hR k (.inr (.inl (h.on k e)))), own_kept h.vl hk (fun k e => hR k (.inr (.inr (h.ol k e)))), h.os, h.on, h.ol⟩

theorem FileAt.role {o o' : Nat → Role} {w : World} {g : GF} {f : PF} (h : FileAt o w g f) (ho : ∀ k, o k = .fs g.tok ∨ o k = .fn g.tok ∨ o k = .fl g.tok → o' k = o k) : FileAt o' w g f :=
  ⟨h.vs, h.vn, h.vl, fun k e => (ho k (.inl (h.os k e))).trans (h.os k e), fun k e => (ho k (.inr (.inl (h.on k e)))).trans (h.on k e), fun k e => (ho k (.inr (.inr (h.ol k e)))).trans (h.ol k e)⟩

/-- A disk stays what it is while others write. -/
theorem DiskAt.kept {g : Gh} {w w' : World} {p : Nat} {d : PD} {R : Nat → Prop} (h : DiskAt g w p d) (hk : Kept R w w') (hR : ∀ k, g.F k → R k) : DiskAt g w' p d where
  blk := (hk.block p (hR p (by unfold Gh.F; rw [h.rol]; decide))).trans h.blk
  rol := h.rol
  fl := h.fl
  fa x hx := (h.fa x hx).kept hk fun k e => hR k (by unfold Gh.F; rcases e with e | e | e <;> rw [e] <;> simp)
  nod := h.nod
  lt := h.lt
  otop := h.otop
  fr := own_kept h.fr hk fun k e => hR k (by unfold Gh.F; rw [h.of k e]; decide)
  of := h.of
  nr := h.nr.kept hk fun k e => hR k (by unfold Gh.F; rw [h.onm k e]; decide)
  onm := h.onm
  sr := h.sr.kept hk fun k e => hR k (by unfold Gh.F; rw [h.osf k e]; decide)
  osf := h.osf
  lr := own_kept h.lr hk fun k e => hR k (by unfold Gh.F; rw [h.ol k e]; decide)
  ol := h.ol
  olt k hk' := Nat.lt_of_lt_of_le (h.olt k hk') hk.size

theorem DiskAt.touch {g : Gh} {w w' : World} {p : Nat} {d : PD} {F : Nat → Prop} (h : DiskAt g w p d) (hk : Touch F w w') (hF : ∀ k, g.F k → ¬ F k) : DiskAt g w' p d :=
  h.kept (R := g.F) (Kept.mono hk fun k hk' => ⟨h.olt k hk', hF k hk'⟩) fun _ h => h

theorem DiskAt.below {g : Gh} {w w' : World} {p : Nat} {d : PD} (h : DiskAt g w p d) (hb : Below w.heap.size w w') : DiskAt g w' p d :=
  h.kept (R := g.F) (Kept.of hb fun k hk => h.olt k hk) fun _ h => h

theorem DiskAt.drew {g : Gh} {w : World} {p : Nat} {d : PD} (h : DiskAt g w p d) : DiskAt g w.drew p d := h.below (Below.refl _ _).drew

/-! ### What the program says of its types. -/
theorem info_u8 : (Try.prog.info? 5).map (fun i => (i.zero, i.size, i.bytes)) = some (some (.int .u8 0), 1, 1) := by kernel_rfl
theorem info_write : (Try.prog.info? 96).map (fun i => (i.zero, i.size, i.bytes)) = some (some (.agg #[.int .i64 0, .string ⟨#[]⟩]), 2, 24) := by kernel_rfl
theorem info_change : (Try.prog.info? 72).map (fun i => (i.zero, i.size, i.bytes)) = some (some (.agg #[.int .i64 0, .string ⟨#[]⟩, .string ⟨#[]⟩, .int .i64 0]), 4, 48) := by kernel_rfl
theorem info_file : (Try.prog.info? 93).map (fun i => (i.zero, i.size, i.bytes)) = some (some (.agg #[.slice none 0 0, .slice none 0 0, .slice none 0 0]), 3, 72) := by kernel_rfl

end Go.Proofs.Ytmlijnekidihbaa
