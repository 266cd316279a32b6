/-
  The program's client: Names, Down, Up, Drop.
-/
import Derived.Test.YtljjgpjaleekdaaGreatDoorClientPiece
namespace Go.Proofs.YtljjgpjaleekdaaGreatDoor
open Go.RowKit

/-- Names that can be read. -/
def RdN (w : World) (v : Value) (l : List (List UInt8)) : Prop := Rd w 1 v l.length (l.map fun n => .string (strB n))

set_option maxRecDepth 100000 in
set_option maxHeartbeats 2000000 in
theorem names_at {G : Nat → Prop} {w : World} {p : Nat} {f : FR} {m : Nat} (h : FarAt G w p f) (hz : Fz f m) (hm : m ≤ 100000) :
    Calls Tryz.prog 23 #[.pointer (some ⟨p, 0, none⟩)] w fun e w' => ∃ va vc G', e = .returned (.tuple #[.slice va f.lists.1.1.length vc, .int .i64 (f.lists.1.2 : Int)]) ∧ FarAt G' w' p f.lists.2 ∧ Touch G w w' ∧ Grows G G' w w' ∧ RdN w' (.slice va f.lists.1.1.length vc) f.lists.1.1 ∧ (∀ k, (Value.slice va f.lists.1.1.length vc).ownBlock = some k → w.heap.size ≤ k ∧ ¬ G' k) ∧ Fz f.lists.2 (m + 4) := by
  obtain ⟨w1, hw1⟩ : ∃ w1, w1 = (w.alloc (.cells #[.pointer (some ⟨p, 0, none⟩)] 24)).alloc (.cells #[.slice none 0 0] 53) := ⟨_, rfl⟩
  have hbel : Below w.heap.size w w1 := by subst hw1; exact ((Below.refl _ _).alloc (Nat.le_refl _) _).alloc (by simp) _
  have hwd : w1.heap.size = w.heap.size + 2 := by subst hw1; simp
  have hbx : w1.heap[w.heap.size + 1]? = some (.cells #[.slice none 0 0] 53 (0, 0)) := by subst hw1; exact heap_new2 w _ _
  have hb0 : w1.heap[w.heap.size]? = some (.cells #[.pointer (some ⟨p, 0, none⟩)] 24 (0, 0)) := by subst hw1; exact (Below.heap_alloc _ _ _ (by simp)).trans (heap_alloc_new w _)
  have h1 : FarAt G w1 p f := h.below hbel
  have hout : ∀ k, w.heap.size ≤ k → ¬ G k := fun k hk e => by have := h.lt k e; omega
  have ht := tried_box RdN [] FR.list (fun f hh => list_eight hh) (bx := w.heap.size + 1) (t := 53) h1 hz 38 #[.pointer (some ⟨w.heap.size, 0, none⟩), .pointer (some ⟨w.heap.size + 1, 0, none⟩)] enters_names1
    (.slice none 0 0) hbx (Rd.nil _ _) rfl (fun G' w2 f' v' k1 k2 k3 k4 k5 => by
      have q0 : w2.heap[w.heap.size]? = w1.heap[w.heap.size]? := k2.block _ ⟨by omega, fun e => e.elim (hout _ (by omega)) (by omega)⟩
      refine (names1_any w2 w.heap.size (w.heap.size + 1) (.pointer (some ⟨p, 0, none⟩)) (blk_cell (q0.trans hb0))
        (R := fun l r v w'' => l = f'.list.1 ∧ r = f'.list.2 ∧ ∃ G'', FarAt G'' w'' p f'.took ∧ Touch (fun k => G' k ∨ k = w.heap.size + 1) w2 w'' ∧ Grows G' G'' w2 w'' ∧ w''.heap[w.heap.size + 1]? = some (.cells #[v] 53 (0, 0)) ∧ RdN w'' v f'.list.1 ∧ ∀ k, v.ownBlock = some k → w2.heap.size ≤ k ∧ ¬ G'' k) ?_).mono ?_
      · refine (farList_at2 k1 (by have := k5.objs; omega) (by have := k5.calls; omega)).mono ?_
        rintro e w3 ⟨v, G'', rfl, j1, j2, jg, j3, j4⟩
        have jr := rd_of_own j3
        obtain ⟨va, vc, rfl, _, _⟩ := rd_of_own j3
        have hlt := blk_lt k4
        have hgb : ¬ G'' (w.heap.size + 1) := fun e => (jg _ e).elim (fun e => (k3 _ e).elim (hout _ (by omega)) (by omega)) (by omega)
        have hgb' : ¬ G' (w.heap.size + 1) := fun e => (k3 _ e).elim (hout _ (by omega)) (by omega)
        have j5 := (j2.block (w.heap.size + 1) ⟨hlt, hgb'⟩).trans k4
        have hs3 : (w3.setCell ⟨w.heap.size + 1, 0, none⟩ (.slice va f'.list.1.length vc)).heap.size = w3.heap.size := by simp [World.setCell]
        refine ⟨f'.list.1, f'.list.2, va, vc, v', rfl, j5, rfl, rfl, G'', ?_, ?_, fun k hk => ?_, ?_, ?_, fun k e => ⟨(World.ownsRow.lt j3 k e).1, j4 k e⟩⟩
        · exact j1.kept (R := G'') ((Kept.refl _ _).setCell hgb _) fun _ h => h
        · exact (Kept.mono j2 fun k hk => ⟨hk.1, fun hg => hk.2 (.inl hg)⟩).setCell (fun hk => hk.2 (.inr rfl)) _
        · rw [hs3]; exact jg k hk
        · exact (blk_set (i := 0) j5 _).trans (by simp)
        · exact Rd.kept (R := fun k => k ≠ w.heap.size + 1) jr ((Kept.refl _ _).setCell (fun h => h rfl) _) fun k e he => by have := (World.ownsRow.lt j3 k e).1; omega
      · rintro e w3 ⟨l, r, va, vc, rfl, rfl, rfl, G'', j1, j2, jg, j3, j4, j5⟩
        exact ⟨_, G'', rfl, j1, j2, jg, j3, j4, j5⟩)
  rw [show FR.tries2 FR.list [] 4 f = f.lists from rfl] at ht
  have HT := Lib.hid ht
  have HBEL := Lib.hid hbel
  have Hw1 := Lib.hid hw1
  have HWD := Lib.hid hwd
  clear ht hbel hw1 hwd hbx hb0 h1 hout
  obtain ⟨⟨⟨l, r⟩, f2⟩, he⟩ : ∃ y, f.lists = y := ⟨_, rfl⟩
  rw [he] at HT ⊢
  dsimp only at HT ⊢
  clear he
  go_enter Tryz.func23, Tryz.ntmps23
  go_wp2_with (go_at_call 32; rw [← Hw1.out]; (with_reducible refine HT.out.mono ?_); rintro e w2 ⟨rfl, v, G', k1, k2, k3, k4, k5, k6, k7⟩; have HR := Lib.hid k5; obtain ⟨va, vc, hv, _, _⟩ := k5; subst hv; have c0 : w2.cell? ⟨w.heap.size + 1, 0, none⟩ = some (.slice va l.length vc) := blk_cell k4; have H1 := Lib.hid k1; have H2 := Lib.hid k2; have H3 := Lib.hid k3; have H6 := Lib.hid k6; have H7 := Lib.hid k7; clear k1 k2 k3 k4 k6 k7)
  go_ret2
  exact ⟨va, vc, G', rfl, H1.out, Touch.unbox HBEL.out (by omega) H2.out, Grows.unbox HBEL.out H3.out, HR.out, fun k e => ⟨by have := (H6.out k e).1; have := HWD.out; omega, (H6.out k e).2⟩, H7.out⟩

set_option maxRecDepth 100000 in
theorem down_at {G : Nat → Prop} {w : World} {p : Nat} {f : FR} {m : Nat} (h : FarAt G w p f) (hz : Fz f m) (hm : m ≤ 100000) (s : ByteArray) (hs : s.size ≤ maxLen) :
    Calls Tryz.prog 19 #[.pointer (some ⟨p, 0, none⟩), .string s] w fun e w' => ∃ va vc G', e = .returned (.tuple #[.slice va (f.gets s.data.toList 0 1048576).1.1.length vc, .int .i64 ((f.gets s.data.toList 0 1048576).1.2 : Int)]) ∧ FarAt G' w' p (f.gets s.data.toList 0 1048576).2 ∧ Touch G w w' ∧ Grows G G' w w' ∧ RdB w' (.slice va (f.gets s.data.toList 0 1048576).1.1.length vc) (f.gets s.data.toList 0 1048576).1.1 ∧ (∀ k, (Value.slice va (f.gets s.data.toList 0 1048576).1.1.length vc).ownBlock = some k → w.heap.size ≤ k ∧ ¬ G' k) ∧ Fz (f.gets s.data.toList 0 1048576).2 (m + 4) := by
  have HC := Lib.hid (piece_at h hz hm s hs 0 1048576)
  obtain ⟨⟨⟨l, r⟩, f2⟩, he⟩ : ∃ y, f.gets s.data.toList 0 1048576 = y := ⟨_, rfl⟩
  rw [he] at HC ⊢
  dsimp only at HC ⊢
  clear he h
  go_enter Tryz.func19, Tryz.ntmps19
  go_wp2_with (go_at_call 21; (with_reducible refine HC.out.mono ?_); rintro e w2 ⟨va, vc, G', rfl, k1, k2⟩; have H1 := Lib.hid k1; have H2 := Lib.hid k2; clear k1 k2)
  go_ret2
  exact ⟨va, vc, G', rfl, H1.out, H2.out⟩

set_option maxRecDepth 100000 in
theorem equal_any (w : World) (va vb : Option Addr) (ca cb : Nat) (l b : List UInt8) (hl : RdB w (.slice va l.length ca) l) (hb : RdB w (.slice vb b.length cb) b) :
    Calls Tryz.prog 34 #[.slice va l.length ca, .slice vb b.length cb] w fun e w' => e = .returned (.bool (decide (l = b))) ∧ Below w.heap.size w w' := by
  have c1 := rdB_convert (P := Tryz.prog) hl 31 5 9 Tryz.underlying31 Tryz.underlying5 Tryz.underlying9
  have c2 := rdB_convert (P := Tryz.prog) hb 31 5 9 Tryz.underlying31 Tryz.underlying5 Tryz.underlying9
  clear hl hb
  go_enter Tryz.func34, Tryz.ntmps34
  go_wp2
  go_ret
  refine ⟨?_, Below.refl _ _⟩
  by_cases hlb : l = b <;> simp [hlb]

set_option maxRecDepth 100000 in
set_option maxHeartbeats 2000000 in
theorem up_at {G : Nat → Prop} {w : World} {p : Nat} {f : FR} {m : Nat} (h : FarAt G w p f) (hz : Fz f m) (hm : m ≤ 10000) (s : ByteArray) (hs : s.size ≤ maxLen) (v : Value) (b : List UInt8) (hv : RdB w v b) (hbl : b.length ≤ maxLen) (ov : b ≠ [] → ∀ k, v.ownBlock = some k → ¬ G k) :
    Calls Tryz.prog 16 #[.pointer (some ⟨p, 0, none⟩), .string s, v] w fun e w' => e = .returned (.int .i64 ((f.up s.data.toList b).1 : Int)) ∧ FarTo G w w' p (f.up s.data.toList b).2 ∧ Fz (f.up s.data.toList b).2 (m + 8) := by
  have hv0 := hv
  obtain ⟨va, vc, rfl, _, _⟩ := RdB.form hv
  obtain ⟨w1, hw1⟩ : ∃ w1, w1 = ((w.alloc (.cells #[.pointer (some ⟨p, 0, none⟩)] 24)).alloc (.cells #[.string s] 9)).alloc (.cells #[.slice va b.length vc] 31) := ⟨_, rfl⟩
  have hbel : Below w.heap.size w w1 := by subst hw1; exact (((Below.refl _ _).alloc (Nat.le_refl _) _).alloc (by simp) _).alloc (by simp; omega) _
  have hwd : w1.heap.size = w.heap.size + 3 := by subst hw1; simp
  have hb2 : w1.heap[w.heap.size + 2]? = some (.cells #[.slice va b.length vc] 31 (0, 0)) := by subst hw1; exact heap_new3 w _ _ _
  have hb1 : w1.heap[w.heap.size + 1]? = some (.cells #[.string s] 9 (0, 0)) := by subst hw1; exact (Below.heap_alloc _ _ _ (by simp)).trans (heap_new2 w _ _)
  have hb0 : w1.heap[w.heap.size]? = some (.cells #[.pointer (some ⟨p, 0, none⟩)] 24 (0, 0)) := by subst hw1; exact (Below.heap_alloc _ _ _ (by simp; omega)).trans ((Below.heap_alloc _ _ _ (by simp)).trans (heap_alloc_new w _))
  have h1 : FarAt G w1 p f := h.below hbel
  have hout : ∀ k, w.heap.size ≤ k → ¬ G k := fun k hk e => by have := h.lt k e; omega
  have hv1 : RdB w1 (.slice va b.length vc) b := hv0.below hbel (Nat.le_refl _)
  have hown : b ≠ [] → ∀ k, (Value.slice va b.length vc).ownBlock = some k → k < w.heap.size := fun hne k e => hv0.blk_lt hne k e
  have ht := tried_far h1 hz (·.put s.data.toList b) (fun f k hk => hk.put _ _) 33 #[.pointer (some ⟨w.heap.size, 0, none⟩), .pointer (some ⟨w.heap.size + 1, 0, none⟩), .pointer (some ⟨w.heap.size + 2, 0, none⟩)] enters_up1 (fun G' w2 f' k1 k2 k3 k5 => by
    have q0 : ∀ k, w.heap.size ≤ k → k < w1.heap.size → w2.heap[k]? = w1.heap[k]? := fun k hk hk2 => k2.block k ⟨hk2, hout k hk⟩
    refine (up1_any w2 w.heap.size (w.heap.size + 1) (w.heap.size + 2) (.pointer (some ⟨p, 0, none⟩)) s va b.length vc (blk_cell ((q0 _ (by omega) (by omega)).trans hb0)) (blk_cell ((q0 _ (by omega) (by omega)).trans hb1)) (blk_cell ((q0 _ (by omega) (by omega)).trans hb2))
      (R := fun r w'' => r = (f'.put s.data.toList b).1 ∧ FarTo G' w2 w'' p (f'.put s.data.toList b).2) ?_).mono ?_
    · refine (farPut_at k1 (by have := k5.objs; omega) (by have := k5.calls; omega) s hs _ b (rd_touch hv1 k2 ov) hbl fun hne k e hg => ?_).mono ?_
      · rcases k3 k hg with q | q
        · exact ov hne k e q
        · have := hown hne k e; omega
      · rintro e w3 ⟨rfl, j1⟩
        exact ⟨_, rfl, rfl, j1⟩
    · rintro e w3 ⟨r, rfl, rfl, j1⟩
      exact ⟨rfl, j1⟩)
  have HT := Lib.hid ht
  have HBEL := Lib.hid hbel
  have Hw1 := Lib.hid hw1
  have HWD := Lib.hid hwd
  have HV := Lib.hid hv1
  have HB0 := Lib.hid hb0
  have HB1 := Lib.hid hb1
  have HB2 := Lib.hid hb2
  have HOUT := Lib.hid hout
  have HOV := Lib.hid ov
  have HOWN := Lib.hid hown
  have H := Lib.hid h
  clear ht hbel hw1 hwd hb0 hb1 hb2 h1 hout hv1 hv hv0 ov hown h
  unfold FR.up
  obtain ⟨⟨r, f2⟩, he⟩ : ∃ y, FR.tries (·.put s.data.toList b) 4 f = y := ⟨_, rfl⟩
  rw [he] at HT ⊢
  dsimp only at HT ⊢
  clear he
  by_cases h3 : r = 3
  · subst h3
    rw [if_pos rfl]
    have HD := Lib.hid (show ∀ (w2 : World), FarTo G w1 w2 p f2 → ∃ G2, FarAt G2 w2 p f2 ∧ Touch G w1 w2 ∧ Grows G G2 w1 w2 ∧ w2.cell? ⟨w.heap.size, 0, none⟩ = some (.pointer (some ⟨p, 0, none⟩)) ∧ w2.cell? ⟨w.heap.size + 1, 0, none⟩ = some (.string s) ∧ w2.cell? ⟨w.heap.size + 2, 0, none⟩ = some (.slice va b.length vc) ∧ RdB w2 (.slice va b.length vc) b ∧ (b ≠ [] → ∀ k, (Value.slice va b.length vc).ownBlock = some k → ¬ G2 k) from fun w2 k1 => by
      obtain ⟨G2, k1, k2, k3⟩ := k1
      have hwd := HWD.out
      have q0 : ∀ k, w.heap.size ≤ k → k < w1.heap.size → w2.heap[k]? = w1.heap[k]? := fun k hk hk2 => k2.block k ⟨hk2, HOUT.out k hk⟩
      refine ⟨G2, k1, k2, k3, blk_cell ((q0 _ (by omega) (by omega)).trans HB0.out), blk_cell ((q0 _ (by omega) (by omega)).trans HB1.out), blk_cell ((q0 _ (by omega) (by omega)).trans HB2.out), rd_touch HV.out k2 HOV.out, fun hne k e hg => ?_⟩
      rcases k3 k hg with q | q
      · exact HOV.out hne k e q
      · have := HOWN.out hne k e; omega)
    have HD3 := Lib.hid (show ∀ (w2 w3 : World) (G2 : Nat → Prop), Touch G w1 w2 → Grows G G2 w1 w2 → RdB w2 (.slice va b.length vc) b → (b ≠ [] → ∀ k, (Value.slice va b.length vc).ownBlock = some k → ¬ G2 k) → Touch G2 w2 w3 → w3.cell? ⟨w.heap.size + 2, 0, none⟩ = some (.slice va b.length vc) ∧ RdB w3 (.slice va b.length vc) b from fun w2 w3 G2 k1 k2 k3 k4 k5 => by
      have hwd := HWD.out
      have hs2 := k1.size
      refine ⟨blk_cell ((k5.block _ ⟨by omega, fun hg => ?_⟩).trans ((k1.block _ ⟨by omega, HOUT.out _ (by omega)⟩).trans HB2.out)), rd_touch k3 k5 k4⟩
      exact (k2 _ hg).elim (HOUT.out _ (by omega)) (by omega))
    obtain ⟨⟨⟨l, r2⟩, f3⟩, he⟩ : ∃ y, f2.gets s.data.toList 0 1048576 = y := ⟨_, rfl⟩
    have HE := Lib.hid he
    rw [he]
    dsimp only
    clear he
    have hnz : ((r2 : Int) != 0) = decide (r2 ≠ 0) := by by_cases h : r2 = 0 <;> simp [h]
    by_cases hr2 : r2 = 0
    · subst hr2
      rw [if_pos rfl]
      clear hnz
      by_cases hlb : l = b
      · subst hlb
        rw [if_pos rfl]
        have hd : decide (l = l) = true := by simp
        go_enter Tryz.func16, Tryz.ntmps16
        go_wp2_with (first | (go_at_call 32; rw [← Hw1.out]; (with_reducible refine HT.out.mono ?_); rintro e w2 ⟨rfl, k1, k2⟩; obtain ⟨G2, q1, q2, q3, c0, c1, c2, q4, q5⟩ := HD.out w2 k1; have Q1 := Lib.hid q1; have Q2 := Lib.hid q2; have Q3 := Lib.hid q3; have Q4 := Lib.hid q4; have Q5 := Lib.hid q5; have K2 := Lib.hid k2; have HDN := Lib.hid (down_at q1 k2 (by omega) s hs); rw [HE.out] at HDN; clear k1 k2 q1 q2 q3 q4 q5) | (go_at_call 19; (with_reducible refine HDN.out.mono ?_); rintro e w3 ⟨xa, xc, G3, rfl, j1, j2, j3, j4, j5, j6⟩; obtain ⟨d2, j7⟩ := HD3.out w2 w3 G2 Q2.out Q3.out Q4.out Q5.out j2; have J1 := Lib.hid j1; have J2 := Lib.hid j2; have J3 := Lib.hid j3; have J4 := Lib.hid j4; have J6 := Lib.hid j6; have J7 := Lib.hid j7; clear j1 j2 j3 j4 j5 j6 j7) | (go_at_call 34; (with_reducible refine (equal_any _ _ _ _ _ _ _ J4.out J7.out).mono ?_); rintro e w4 ⟨rfl, B4⟩; have HB4 := Lib.hid B4; clear B4))
        go_ret
        exact ⟨rfl, FarTo.trans (Touch.of_below HBEL.out) (Grows.refl _ _ _) (FarTo.trans Q2.out Q3.out (FarTo.trans J2.out J3.out (FarTo.of_below J1.out HB4.out))), J6.out⟩
      · rw [if_neg hlb]
        have hd : decide (l = b) = false := by simp [hlb]
        go_enter Tryz.func16, Tryz.ntmps16
        go_wp2_with (first | (go_at_call 32; rw [← Hw1.out]; (with_reducible refine HT.out.mono ?_); rintro e w2 ⟨rfl, k1, k2⟩; obtain ⟨G2, q1, q2, q3, c0, c1, c2, q4, q5⟩ := HD.out w2 k1; have Q1 := Lib.hid q1; have Q2 := Lib.hid q2; have Q3 := Lib.hid q3; have Q4 := Lib.hid q4; have Q5 := Lib.hid q5; have K2 := Lib.hid k2; have HDN := Lib.hid (down_at q1 k2 (by omega) s hs); rw [HE.out] at HDN; clear k1 k2 q1 q2 q3 q4 q5) | (go_at_call 19; (with_reducible refine HDN.out.mono ?_); rintro e w3 ⟨xa, xc, G3, rfl, j1, j2, j3, j4, j5, j6⟩; obtain ⟨d2, j7⟩ := HD3.out w2 w3 G2 Q2.out Q3.out Q4.out Q5.out j2; have J1 := Lib.hid j1; have J2 := Lib.hid j2; have J3 := Lib.hid j3; have J4 := Lib.hid j4; have J6 := Lib.hid j6; have J7 := Lib.hid j7; clear j1 j2 j3 j4 j5 j6 j7) | (go_at_call 34; (with_reducible refine (equal_any _ _ _ _ _ _ _ J4.out J7.out).mono ?_); rintro e w4 ⟨rfl, B4⟩; have HB4 := Lib.hid B4; clear B4))
        go_ret
        exact ⟨rfl, FarTo.trans (Touch.of_below HBEL.out) (Grows.refl _ _ _) (FarTo.trans Q2.out Q3.out (FarTo.trans J2.out J3.out (FarTo.of_below J1.out HB4.out))), J6.out⟩
    · rw [if_neg hr2]
      have hnz : ((r2 : Int) != 0) = true := by simp; omega
      go_enter Tryz.func16, Tryz.ntmps16
      go_wp2_with (first | (go_at_call 32; rw [← Hw1.out]; (with_reducible refine HT.out.mono ?_); rintro e w2 ⟨rfl, k1, k2⟩; obtain ⟨G2, q1, q2, q3, c0, c1, c2, q4, q5⟩ := HD.out w2 k1; have Q1 := Lib.hid q1; have Q2 := Lib.hid q2; have Q3 := Lib.hid q3; have Q4 := Lib.hid q4; have Q5 := Lib.hid q5; have K2 := Lib.hid k2; have HDN := Lib.hid (down_at q1 k2 (by omega) s hs); rw [HE.out] at HDN; clear k1 k2 q1 q2 q3 q4 q5) | (go_at_call 19; (with_reducible refine HDN.out.mono ?_); rintro e w3 ⟨xa, xc, G3, rfl, j1, j2, j3, j4, j5, j6⟩; obtain ⟨d2, j7⟩ := HD3.out w2 w3 G2 Q2.out Q3.out Q4.out Q5.out j2; have J1 := Lib.hid j1; have J2 := Lib.hid j2; have J3 := Lib.hid j3; have J4 := Lib.hid j4; have J6 := Lib.hid j6; have J7 := Lib.hid j7; clear j1 j2 j3 j4 j5 j6 j7))
      go_ret
      exact ⟨rfl, FarTo.trans (Touch.of_below HBEL.out) (Grows.refl _ _ _) (FarTo.trans Q2.out Q3.out ⟨G3, J1.out, J2.out, J3.out⟩), J6.out⟩
  · rw [if_neg h3]
    have hne : ((r : Int) != 3) = true := by simp; omega
    go_enter Tryz.func16, Tryz.ntmps16
    go_wp2_with (go_at_call 32; rw [← Hw1.out]; (with_reducible refine HT.out.mono ?_); rintro e w2 ⟨rfl, k1, k2⟩; have H1 := Lib.hid k1; have H2 := Lib.hid k2; clear k1 k2)
    go_ret
    exact ⟨rfl, FarTo.trans (Touch.of_below HBEL.out) (Grows.refl _ _ _) H1.out, H2.out.mono (by omega)⟩
end Go.Proofs.YtljjgpjaleekdaaGreatDoor
