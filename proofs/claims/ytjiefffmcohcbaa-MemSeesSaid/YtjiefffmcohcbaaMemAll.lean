/-
  The list with towers: every entry in order, in new memory.
-/
import Derived.Test.YtjiefffmcohcbaaMemGet
import Derived.Laws.OwnMore
import Derived.Lib.SmallJoins
namespace Go.Proofs.Ytjiefffmcohcbaa
open Go.RowKit

/-- The slice 'v' of entries lies in memory of the call's own, from block 'B' on. -/
def OwnE (w : World) (B : Nat) (v : Value) (es : List Ent) : Prop := w.ownsRow B 34 4 v es.length (es.flatMap Ent.cells)

theorem OwnE.read {w : World} {B : Nat} {v : Value} {es : List Ent} (h : OwnE w B v es) (hf : ∀ e ∈ es, e.fits) : RdE w v es := ⟨rd_of_own h, hf⟩
theorem OwnE.below {w w' : World} {B : Nat} {v : Value} {es : List Ent} (h : OwnE w B v es) (hb : Below w.heap.size w w') : OwnE w' B v es := by
  refine own_base (B := 0) (own_kept (own_base h (B' := 0) fun _ _ => Nat.zero_le _) (R := fun k => k < w.heap.size) (Kept.of hb fun _ h => h) fun k hk => (World.ownsRow.lt h k hk).2) fun k hk => (World.ownsRow.lt h k hk).1
theorem OwnE.form {w : World} {B : Nat} {v : Value} {es : List Ent} (h : OwnE w B v es) : ∃ a cap, v = .slice a es.length cap ∧ es.length ≤ cap ∧ cap ≤ maxLen := by
  obtain ⟨a, cap, rfl, h1, h2, _⟩ := rd_of_own h
  exact ⟨a, cap, rfl, h1, h2⟩
theorem entFlat_one (l : List Ent) : ∀ u ∈ l.flatMap Ent.cells, u.oneCell' = true := by
  intro u hu
  obtain ⟨o, _, ho⟩ := List.mem_flatMap.1 hu
  simp only [Ent.cells, List.mem_cons, List.not_mem_nil, or_false] at ho
  rcases ho with rfl | rfl | rfl | rfl <;> rfl
/-- One entry, laid by itself. -/
theorem one_entry (w : World) (e : Ent) : Rd (w.alloc (.cells #[.string e.u, .int .i64 e.s, .int .i64 e.k, .string e.v] 34)) 4 (.slice (some ⟨w.heap.size, 0, none⟩) 1 1) 1 ([e].flatMap Ent.cells) := by
  refine ⟨_, 1, rfl, Nat.le_refl _, by unfold maxLen; omega, rfl, .inr ⟨w.heap.size, 0, rfl, by simp, fun j u hj => ?_⟩⟩
  rw [Nat.zero_add, cell_of_row _ w.heap.size j _ 34 (0, 0) (heap_alloc_new w _)]
  simpa [Ent.cells] using hj
theorem own_monoE {w : World} {B B' : Nat} {v : Value} {es : List Ent} (h : OwnE w B v es) (hB : B' ≤ B) : OwnE w B' v es := own_base h fun k hk => Nat.le_trans hB (World.ownsRow.lt h k hk).1

theorem run_make_ents (n : Nat) (hn : n < 1000000) (w : World) : (Instr.makeSlice 22 (.int .i64 0) (.int .i64 (n : Int))).run Try.prog w = .ok (.slice (some ⟨w.heap.size, 0, none⟩) 0 n) (w.alloc (.cells (madeCells #[.string ⟨#[]⟩, .int .i64 0, .int .i64 0, .string ⟨#[]⟩] (n * 4)) 34)) := by
  obtain ⟨i0, hi, hz0, hz1, hz2⟩ := info_parts info_ent
  have h := run_make (P := Try.prog) w 22 34 i0 _ Try.underlying22 hi hz0 .i64 .i64 0 (n : Int) (by omega) (by omega) (by rw [hz2]; omega) (by omega)
  rw [hz1, Int.toNat_natCast] at h
  exact h

theorem MS.Ok.walk {m : MS} (hok : m.Ok) : m.lk 0 0 = m.ord.getD 0 0 ∧ (∀ i, m.ord.length ≤ i → m.ord.getD i 0 = 0) ∧ ∀ i, i < m.ord.length → m.lk (m.ord.getD i 0) 0 = m.ord.getD (i + 1) 0 ∧ LinkIn m (m.ord.getD i 0) 0 ∧ 1 ≤ m.ord.getD i 0 ∧ m.ord.getD i 0 ≤ m.es.length ∧ m.ent (m.ord.getD i 0) = m.all.getD i Ent.none_ := by
  have hc := hok.chain 0 (by omega)
  rw [hok.bottom] at hc
  have key : ∀ i, i ≤ m.ord.length → m.lk ((0 :: m.ord).getD i 0) 0 = m.ord.getD i 0 := by
    intro i hi
    have h1 := congrArg (fun l => l[i]?) hc
    simp only [List.getElem?_map] at h1
    rw [List.getElem?_eq_getElem (by simp; omega)] at h1
    simp only [Option.map_some] at h1
    have h2 : (0 :: m.ord).getD i 0 = (0 :: m.ord)[i]'(by simp; omega) := by simp only [List.getD]; rw [List.getElem?_eq_getElem (by simp; omega)]; rfl
    rw [h2]
    rcases Nat.lt_or_ge i m.ord.length with h3 | h3
    · rw [List.getElem?_append_left h3] at h1
      simp only [List.getD]
      rw [← h1]; rfl
    · have : i = m.ord.length := by omega
      subst this
      rw [List.getElem?_append_right (Nat.le_refl _)] at h1
      simp at h1
      simp [h1, List.getD]
  refine ⟨key 0 (Nat.zero_le _), fun i hi => by simp only [List.getD]; rw [List.getElem?_eq_none hi]; rfl, fun i hi => ?_⟩
  have e1 : (0 :: m.ord).getD (i + 1) 0 = m.ord.getD i 0 := rfl
  have hin : m.ord.getD i 0 ∈ m.ord := by simp only [List.getD]; rw [List.getElem?_eq_getElem hi]; exact List.getElem_mem _
  have h4 := hok.mem _ hin
  have h5 := hok.ht _ h4.1 h4.2
  refine ⟨by rw [← e1]; exact key (i + 1) hi, .inr ⟨h4.1, h4.2, by omega⟩, h4.1, h4.2, ?_⟩
  unfold MS.all
  simp only [List.getD, List.getElem?_map]
  rw [List.getElem?_eq_getElem hi]
  rfl

/-- How long a slice is. -/
def slLen : Value → Nat
  | .slice _ n _ => n
  | _ => 0

set_option maxRecDepth 100000 in
set_option maxHeartbeats 8000000 in
theorem memAll_at {g : GM} {w : World} {p : Nat} {m : MS} (hm : MemAt g w p m) (hok : m.Ok) (hlen : m.es.length < 1000000) :
    Calls Try.prog 15 #[.pointer (some ⟨p, 0, none⟩)] w fun e w' => ∃ v, e = .returned v ∧ OwnE w' w.heap.size v m.all ∧ Below w.heap.size w w' := by
  obtain ⟨k0, hend, hstep⟩ := hok.walk
  obtain ⟨f1, _, _, _⟩ := hm.fields
  have hpw : p < w.heap.size := blk_lt hm.blk
  have hc0 := (hm.cell (a := 0) (h := 0) (.inl ⟨rfl, by omega⟩)).1
  rw [k0] at hc0
  have hc0' : w.cell? ⟨p, 0, none⟩ = some (.int .i64 (m.ord.getD 0 0 : Int)) := hc0
  obtain ⟨na, nc, hv, _, _⟩ := rd_of_own hm.nr
  rw [hv] at f1
  have hmk := run_make_ents m.es.length hlen
  have hlo : m.all.length = m.ord.length := by unfold MS.all; rw [List.length_map]
  have hle := hok.len
  have HM := Lib.hid hm
  have HOK := Lib.hid hok
  have HSTEP := Lib.hid hstep
  have HEND := Lib.hid hend
  have HLO := Lib.hid hlo
  have HLE := Lib.hid hle
  clear k0 hend hstep hc0 hm hok hv hlo hle
  go_enter Try.func15, Try.ntmps15
  go_wp2
  go_loopw [3, 4] (fun v a wr => ∃ (i : Nat) (sa : Option Addr) (sc : Nat), i ≤ m.ord.length ∧ v = .slice sa i sc ∧ a = .int .i64 (m.ord.getD i 0 : Int) ∧ Hid (OwnE wr w.heap.size (.slice sa i sc) (m.all.take i)) ∧ Hid (Below w.heap.size w wr)) (fun v _ _ => m.ord.length - slLen v)
  case atStart =>
    refine ⟨0, _, _, Nat.zero_le _, rfl, rfl, Lib.hid ?_, Lib.hid ((Below.refl _ _).alloc (Nat.le_refl _) _)⟩
    exact World.ownsRow_made w _ _ (Nat.le_refl _) (by unfold maxLen; omega) (by rw [size_madeCells])
  case round =>
    obtain ⟨i, sa, sc, hi, rfl, rfl, HO, HB⟩ := hrel
    by_cases hlt : i < m.ord.length
    · obtain ⟨s1, s2, s3, s4, s5⟩ := HSTEP.out i hlt
      obtain ⟨lb, hlb⟩ := link_all HM.out HOK.out s2 s1
      have hE := entry_all HM.out s3 s4 _ s5 wr HB.out
      have htl : (m.all.take i).length = i := by rw [List.length_take, HLO.out]; omega
      have hnx : m.all.take (i + 1) = m.all.take i ++ [m.all.getD i Ent.none_] := by
        have hi' : i < m.all.length := by rw [HLO.out]; exact hlt
        rw [List.take_succ_eq_append_getElem hi']
        simp [List.getD, hi']
      have HNX := Lib.hid hnx
      have HTL := Lib.hid htl
      obtain ⟨a, ha⟩ : ∃ b, m.ord.getD i 0 = b + 1 := ⟨m.ord.getD i 0 - 1, by omega⟩
      rw [ha] at hlb hE ⊢
      have hane : ((a + 1 : Nat) : Int) ≠ 0 := by omega
      generalize m.all.getD i Ent.none_ = E at *
      generalize hnxt : m.ord.getD (i + 1) 0 = nxt at *
      have HNXT := Lib.hid hnxt
      have HL := Lib.hid hlb
      have HE := Lib.hid hE
      have hlim : m.ord.length < 1000000 := by rw [HLE.out]; exact hlen
      clear hlb hE s1 s2 s3 s4 s5 ha hnx htl hnxt
      go_wp2_with (first | (go_at_call 23; (refine HE.out.mono ?_); rintro e w2 ⟨rfl, hb2⟩; (have hbb := belowT HB.out hb2); (have hoo := HO.out.below hb2); (have HBB := Lib.hid hbb); (have HOO := Lib.hid hoo); clear hbb hoo hb2) | (at_builtin; refine wpList_append_rd rfl (.tmp 25) (.tmp 29) 22 rfl w.heap.size 34 4 48 (.agg #[.string ⟨#[]⟩, .int .i64 0, .int .i64 0, .string ⟨#[]⟩]) Try.underlying22 info_ent rfl (by decide) (.slice sa i sc) (.slice (some ⟨w2.heap.size, 0, none⟩) 1 1) (m.all.take i).length 1 ((m.all.take i).flatMap Ent.cells) ([E].flatMap Ent.cells) rfl rfl (World.ownsRow.alloc HOO.out _) (one_entry w2 E) (entFlat_one _) (by have := HBB.out.size; simp; omega) (by rw [HTL.out]; omega) (by rw [HTL.out]; unfold maxLen; omega) ?kkA))
      case kkA =>
        intro vA wA hown hBk
        have hb := hBk w.heap.size w (Nat.le_refl _) (HBB.out.alloc HBB.out.size _)
        obtain ⟨qa, qc, hvA, _, _⟩ := rd_of_own hown
        rw [show min i m.all.length = i by rw [HLO.out]; omega] at hvA
        subst hvA
        have hO2 : OwnE wA w.heap.size (.slice qa (i + 1) qc) (m.all.take (i + 1)) := by
          have e1 : (m.all.take i ++ [E]).length = (m.all.take i).length + 1 := by rw [List.length_append]; rfl
          unfold OwnE
          have e2 : [E].flatMap Ent.cells = E.cells := by simp
          rw [HNX.out, e1, List.flatMap_append, e2, List.length_take]
          exact hown
        obtain ⟨hq, hcl⟩ := HL.out wA hb
        have HCL := Lib.hid hcl
        have HO2 := Lib.hid hO2
        have HB2 := Lib.hid hb
        clear hown hBk hb hO2 hcl
        go_wp2_with (go_at_call 22; (refine HCL.out.mono ?_); rintro e w9 ⟨rfl, rfl⟩)
        exact ⟨⟨i + 1, qa, qc, hlt, rfl, by rw [HNXT.out], HO2, HB2⟩, by simp only [slLen]; omega⟩
    · obtain ⟨z, hz⟩ : ∃ z, z = m.ord.getD i 0 := ⟨_, rfl⟩
      have hz0 : z = 0 := by rw [hz]; exact HEND.out i (by omega)
      rw [← hz, hz0]
      clear hz hz0
      have hie : i = m.ord.length := by omega
      have hO2 : OwnE wr w.heap.size (.slice sa i sc) m.all := by
        have := HO.out
        rwa [hie, ← HLO.out, List.take_length, HLO.out, ← hie] at this
      have HO2 := Lib.hid hO2
      clear hie hO2
      go_wp2
      go_ret
      exact ⟨_, rfl, HO2.out, HB.out⟩
end Go.Proofs.Ytjiefffmcohcbaa
