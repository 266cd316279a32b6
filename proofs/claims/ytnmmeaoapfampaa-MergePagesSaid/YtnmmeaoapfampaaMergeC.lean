/-
  Chapter 15: rows of pairs; what is asked of package merge, as contracts which the walks take and the program's own texts give.
-/
import Derived.Test.YtnmmeaoapfampaaMergeSees
import Derived.Test.YtnmmeaoapfampaaEntLL
import Derived.Test.YtnmmeaoapfampaaMkSmall
namespace Go.Proofs.Ytnmmeaoapfampaa
open Go.RowKit

def cellsP (x : ByteArray × ByteArray) : List Value := [.string x.1, .string x.2]
def noneP : ByteArray × ByteArray := (⟨#[]⟩, ⟨#[]⟩)
theorem info_pair : (Try.prog.info? 42).map (fun i => (i.zero, i.size, i.bytes)) = some (some (.agg #[.string ⟨#[]⟩, .string ⟨#[]⟩]), 2, 32) := by kernel_rfl
/-- The slice 'v' of pairs lies in memory of the call's own, from block 'B' on. -/
def OwnP (w : World) (B : Nat) (v : Value) (l : List (ByteArray × ByteArray)) : Prop := w.ownsRow B 42 2 v l.length (l.flatMap cellsP)
theorem OwnP.read {w : World} {B : Nat} {v : Value} {l : List (ByteArray × ByteArray)} (h : OwnP w B v l) : Rd w 2 v l.length (l.flatMap cellsP) := rd_of_own h
theorem OwnP.below {w w' : World} {B : Nat} {v : Value} {l : List (ByteArray × ByteArray)} (h : OwnP w B v l) (hb : Below w.heap.size w w') : OwnP w' B v l :=
  own_kept h (R := fun k => k < w.heap.size) (Kept.of hb fun _ h => h) fun k hk => (World.ownsRow.lt h k hk).2
theorem OwnP.form {w : World} {B : Nat} {v : Value} {l : List (ByteArray × ByteArray)} (h : OwnP w B v l) : ∃ a cap, v = .slice a l.length cap ∧ l.length ≤ cap ∧ cap ≤ maxLen := by
  obtain ⟨a, cap, rfl, h1, h2, _⟩ := rd_of_own h
  exact ⟨a, cap, rfl, h1, h2⟩
theorem own_monoP {w : World} {B B' : Nat} {v : Value} {l : List (ByteArray × ByteArray)} (h : OwnP w B v l) (hB : B' ≤ B) : OwnP w B' v l := own_base h fun k hk => Nat.le_trans hB (World.ownsRow.lt h k hk).1
theorem pairFlat_one (l : List (ByteArray × ByteArray)) : ∀ u ∈ l.flatMap cellsP, u.oneCell' = true := by
  intro u hu
  obtain ⟨o, _, ho⟩ := List.mem_flatMap.1 hu
  simp only [cellsP, List.mem_cons, List.not_mem_nil, or_false] at ho
  rcases ho with rfl | rfl <;> rfl
/-- One pair, laid by itself. -/
theorem one_pair (w : World) (x : ByteArray × ByteArray) : Rd (w.alloc (.cells #[.string x.1, .string x.2] 42)) 2 (.slice (some ⟨w.heap.size, 0, none⟩) 1 1) 1 ([x].flatMap cellsP) := by
  refine ⟨_, 1, rfl, Nat.le_refl _, by unfold maxLen; omega, rfl, .inr ⟨w.heap.size, 0, rfl, by simp, fun j u hj => ?_⟩⟩
  rw [Nat.zero_add, cell_of_row _ w.heap.size j _ 42 (0, 0) (heap_alloc_new w _)]
  simpa [cellsP] using hj
theorem pflat_length : ∀ l : List (ByteArray × ByteArray), (l.flatMap cellsP).length = l.length * 2
  | [] => rfl
  | e :: l => by
    rw [List.flatMap_cons, List.length_append, pflat_length l, List.length_cons]
    simp only [cellsP, List.length_cons, List.length_nil]
    omega
theorem pflat_at : ∀ (l : List (ByteArray × ByteArray)) (i t : Nat), i < l.length → t < 2 → (l.flatMap cellsP)[i * 2 + t]? = (cellsP (l.getD i noneP))[t]?
  | [], i, t, h, _ => by simp at h
  | e :: l, 0, t, _, ht => by
    rw [List.flatMap_cons, Nat.zero_mul, Nat.zero_add, List.getElem?_append_left (by simp [cellsP]; omega)]
    rfl
  | e :: l, i + 1, t, h, ht => by
    rw [List.flatMap_cons, List.getElem?_append_right (by simp [cellsP]; omega)]
    have : (i + 1) * 2 + t - (cellsP e).length = i * 2 + t := by simp [cellsP]; omega
    rw [this, pflat_at l i t (by simpa using h) ht]
    simp [List.getD]
/-- Each pair of an own row. -/
theorem own_pair {w : World} {B : Nat} {va : Option Addr} {vc k : Nat} {l : List (ByteArray × ByteArray)} (h : OwnP w B (.slice va l.length vc) l) (hk : k < l.length) : ∃ g, va = some ⟨g, 0, none⟩ ∧ g < w.heap.size ∧
    w.cell? ⟨g, k * 2, none⟩ = some (.string (l.getD k noneP).1) ∧ w.cell? ⟨g, k * 2 + 1, none⟩ = some (.string (l.getD k noneP).2) := by
  have h0 := h
  rcases h.2 with ⟨_, h3⟩ | ⟨g, cap', cur, hv, h3, hg, _⟩
  · omega
  · cases hv
    have hl := fun j => World.ownsRow.cellAt h0 j
    refine ⟨g, rfl, (Array.getElem?_eq_some_iff.1 hg).1, ?_, ?_⟩
    · rw [hl _ (by omega)]; exact pflat_at l k 0 hk (by omega)
    · rw [hl _ (by omega)]; exact pflat_at l k 1 hk (by omega)

/-- What Merge has to give. -/
def MergeC : Prop := ∀ (v : Value) (ls : List (List Ent)) (w : World) (_ : RdLE w v ls) (_ : ls.length ≤ 1000) (_ : SmallE ls.flatten),
  Calls Try.prog 13 #[v] w fun e w' => ∃ x, e = .returned x ∧ OwnE w' w.heap.size x (mergeE ls) ∧ Below w.heap.size w w'
/-- What View has to give. -/
def ViewC : Prop := ∀ (v : Value) (es : List Ent) (seq : Int) (lo hi : ByteArray) (back : Bool) (most : Int) (w : World) (_ : RdE w v es) (_ : SmallE es) (_ : Up es) (_ : lo.size ≤ 1000) (_ : hi.size ≤ 1000) (_ : (Lit.int .i64 seq).wf = true) (_ : (Lit.int .i64 most).wf = true),
  Calls Try.prog 17 #[v, .int .i64 seq, .string lo, .string hi, .bool back, .int .i64 most] w fun e w' => ∃ x, e = .returned x ∧ OwnP w' w.heap.size x (viewV es seq lo hi back most) ∧ Below w.heap.size w w'
end Go.Proofs.Ytnmmeaoapfampaa
