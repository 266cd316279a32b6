/-
  The document's client (iceboxref4), upon its far store.
-/
import Derived.Test.YtljjgpjaleekdaaGreatDoorRefOn
import Derived.Test.YtljjgpjaleekdaaGreatDoorClientTried
namespace Go.Proofs.YtljjgpjaleekdaaGreatDoor
open Go.RowKit

theorem RSm.mono {f : FR} {k m : Nat} (h : RSm f k) (hm : k ≤ m) : RSm f m := ⟨Nat.le_trans h.objs hm, Nat.le_trans h.calls hm, h.names, h.left, h.data⟩
theorem RSm.tries {g : FR → Nat × FR} (hg : ∀ f k, RSm f k → RSm (g f).2 (k + 1)) : ∀ (m : Nat) {f : FR} {k : Nat}, RSm f k → RSm (FR.tries g m f).2 (k + m)
  | 0, _, _, h => h
  | m + 1, f, k, h => by
    unfold FR.tries
    split
    · exact (RSm.tries hg m (hg f k h)).mono (by omega)
    · exact (hg f k h).mono (by omega)
theorem RSm.tries2 {α : Type} {g : FR → α × Nat} {a0 : α} : ∀ (m : Nat) {f : FR} {k : Nat}, RSm f k → RSm (FR.tries2 g a0 m f).2 (k + m)
  | 0, _, _, h => h
  | m + 1, f, k, h => by
    unfold FR.tries2
    split
    · exact (RSm.tries2 m h.took).mono (by omega)
    · exact h.took.mono (by omega)
theorem RSm.gets {f : FR} {k : Nat} (h : RSm f k) (n : List UInt8) (a c : Int) : RSm (f.gets n a c).2 (k + 4) := RSm.tries2 4 h
theorem RSm.lists {f : FR} {k : Nat} (h : RSm f k) : RSm f.lists.2 (k + 4) := RSm.tries2 4 h
theorem RSm.tput {f : FR} {k : Nat} (h : RSm f k) (n b : List UInt8) (hb : b.length ≤ 300) : RSm (FR.tries (·.put n b) 4 f).2 (k + 4) := RSm.tries (g := (·.put n b)) (fun _ _ hf => hf.put n b hb) 4 h
theorem RSm.up {f : FR} {k : Nat} (h : RSm f k) (n b : List UInt8) (hb : b.length ≤ 300) : RSm (f.up n b).2 (k + 8) := by
  have h1 := h.tput n b hb
  unfold FR.up
  dsimp only
  split
  · exact (h1.gets n 0 1048576).mono (by omega)
  · exact h1.mono (by omega)
theorem RSm.cdrop {f : FR} {k : Nat} (h : RSm f k) (n : List UInt8) : RSm (f.cdrop n).2 (k + 4) := RSm.tries (g := (·.drop n)) (fun _ _ hf => hf.drop n) 4 h

theorem srt_drop {f : FR} (h : Srt f.objs) (n : List UInt8) : Srt (f.drop n).2.objs := by
  show Srt (f.does (·.dropD n)).objs
  unfold FR.does
  split
  · exact h
  · exact List.Pairwise.filter _ h

theorem tries_step {g : FR → Nat × FR} {f f0 : FR} {j : Nat} (hj : j < 4) (h : FR.tries g (4 - j) f = FR.tries g 4 f0) : (if (g f).1 = 8 then FR.tries g (4 - (j + 1)) (g f).2 else g f) = FR.tries g 4 f0 := by
  rw [← h, show 4 - j = (4 - (j + 1)) + 1 by omega]
  rfl
theorem tries2_step {α : Type} {g : FR → α × Nat} {a0 : α} {f f0 : FR} {j : Nat} (hj : j < 4) (h : FR.tries2 g a0 (4 - j) f = FR.tries2 g a0 4 f0) : (if (g f).2 = 8 then FR.tries2 g a0 (4 - (j + 1)) f.took else (g f, f.took)) = FR.tries2 g a0 4 f0 := by
  rw [← h, show 4 - j = (4 - (j + 1)) + 1 by omega]
  rfl

set_option maxRecDepth 100000 in
set_option maxHeartbeats 4000000 in
set_option linter.unusedSimpArgs false in
theorem rpiece_at {H : Nat → Prop} {w : World} {q : Nat} {g : FR} {m : Nat} (h : RefAt H w q g) (hs : RSm g m) (hm : m ≤ 10000) (s : ByteArray) (a c : Int) :
    Calls Tryz.prog 22 #[.pointer (some ⟨q, 0, none⟩), .string s, .int .i64 a, .int .i64 c] w fun e w' => ∃ va vc, e = .returned (.tuple #[.slice va (g.gets s.data.toList a c).1.1.length vc, .int .i64 ((g.gets s.data.toList a c).1.2 : Int)]) ∧ RefTo H w w' q (g.gets s.data.toList a c).2 ∧ RdB w' (.slice va (g.gets s.data.toList a c).1.1.length vc) (g.gets s.data.toList a c).1.1 := by
  obtain ⟨fin, hfin⟩ : ∃ y, g.gets s.data.toList a c = y := ⟨_, rfl⟩
  rw [hfin]
  have h0 : FR.tries2 (fun f => f.get s.data.toList a c) [] (4 - 0) g = fin := hfin
  have H0 := Lib.hid (show RefTo H w w q g from ⟨H, h, Touch.refl _ _, Grows.refl _ _ _⟩)
  have HS0 := Lib.hid hs
  have HF0 := Lib.hid h0
  clear h hs h0
  go_enter Tryz.func22, Tryz.ntmps22
  go_wp2
  go_loopw [10] (fun i wr => ∃ (j : Nat) (g' : FR), j ≤ 4 ∧ i = .int .i64 j ∧ RefTo H w wr q g' ∧ RSm g' (m + j) ∧ FR.tries2 (fun f => f.get s.data.toList a c) [] (4 - j) g' = fin) (fun i _ => 4 - (intOf i).toNat)
  case atStart => exact ⟨0, g, by omega, rfl, H0.out, HS0.out, HF0.out⟩
  case round =>
    obtain ⟨j, g', hj, rfl, hr, hsm, hf⟩ := hrel
    by_cases hlt : j < 4
    · obtain ⟨H1, r1, r2, r3⟩ := hr
      have hst := tries2_step (g := fun f => f.get s.data.toList a c) (a0 := []) (f0 := g) hlt (hf.trans hfin.symm)
      rw [show FR.tries2 (fun f => f.get s.data.toList a c) [] 4 g = fin from hfin] at hst
      have hg := rget_at r1 (by have := hsm.objs; omega) (by have := hsm.calls; omega) s a c fun x hx => by have := hsm.data x hx; omega
      have HG := Lib.hid hg
      have HR2 := Lib.hid r2
      have HR3 := Lib.hid r3
      have HSM := Lib.hid hsm.took
      clear r1 r2 r3 hg hf hsm
      obtain ⟨⟨l, r⟩, he⟩ : ∃ y, g'.get s.data.toList a c = y := ⟨_, rfl⟩
      rw [he] at HG hst
      dsimp only at HG hst
      clear he
      have HST := Lib.hid hst
      clear hst
      by_cases h8 : r = 8
      · subst h8
        go_wp2_with (go_at_call 37; (with_reducible refine HG.out.mono ?_); rintro e w2 ⟨v, rfl, k1, k2, _⟩; have K1 := Lib.hid k1; clear k1 k2)
        go_roundw
        case rel => exact ⟨j + 1, g'.took, by omega, by go_num, RefTo.trans HR2.out HR3.out K1.out, HSM.out, by simpa using HST.out⟩
        case measure => simp [intOf]; omega
      · have hne : ((r : Int) != 8) = true := by simp; omega
        have hfe : ((l, r), g'.took) = fin := by have := HST.out; rw [if_neg h8] at this; exact this
        go_wp2_with (go_at_call 37; (with_reducible refine HG.out.mono ?_); rintro e w2 ⟨v, rfl, k1, k2, _⟩; have K1 := Lib.hid k1; have K2 := Lib.hid k2; obtain ⟨va, vc, hv, _, _⟩ := RdB.form k2; subst hv; clear k1 k2)
        go_ret2
        subst hfe
        exact ⟨va, vc, rfl, RefTo.trans HR2.out HR3.out K1.out, K2.out⟩
    · have h4 : j = 4 := by omega
      subst h4
      have hfe : (([], 8), g') = fin := hf
      have HR := Lib.hid hr
      clear hr
      go_wp2
      go_ret2
      subst hfe
      exact ⟨none, 0, rfl, HR.out, Rd.nil _ _⟩

set_option maxRecDepth 100000 in
theorem rdown_at {H : Nat → Prop} {w : World} {q : Nat} {g : FR} {m : Nat} (h : RefAt H w q g) (hs : RSm g m) (hm : m ≤ 10000) (s : ByteArray) :
    Calls Tryz.prog 20 #[.pointer (some ⟨q, 0, none⟩), .string s] w fun e w' => ∃ va vc, e = .returned (.tuple #[.slice va (g.gets s.data.toList 0 1048576).1.1.length vc, .int .i64 ((g.gets s.data.toList 0 1048576).1.2 : Int)]) ∧ RefTo H w w' q (g.gets s.data.toList 0 1048576).2 ∧ RdB w' (.slice va (g.gets s.data.toList 0 1048576).1.1.length vc) (g.gets s.data.toList 0 1048576).1.1 := by
  have HC := Lib.hid (rpiece_at h hs hm s 0 1048576)
  obtain ⟨⟨⟨l, r⟩, f2⟩, he⟩ : ∃ y, g.gets s.data.toList 0 1048576 = y := ⟨_, rfl⟩
  rw [he] at HC ⊢
  dsimp only at HC ⊢
  clear he h
  go_enter Tryz.func20, Tryz.ntmps20
  go_wp2_with (go_at_call 22; (with_reducible refine HC.out.mono ?_); rintro e w2 ⟨va, vc, rfl, k1, k2⟩; have H1 := Lib.hid k1; have H2 := Lib.hid k2; clear k1 k2)
  go_ret2
  exact ⟨va, vc, rfl, H1.out, H2.out⟩

set_option maxRecDepth 100000 in
set_option maxHeartbeats 4000000 in
set_option linter.unusedSimpArgs false in
theorem rnames_at {H : Nat → Prop} {w : World} {q : Nat} {g : FR} {m : Nat} (h : RefAt H w q g) (hs : RSm g m) (hm : m ≤ 10000) :
    Calls Tryz.prog 24 #[.pointer (some ⟨q, 0, none⟩)] w fun e w' => ∃ va vc, e = .returned (.tuple #[.slice va g.lists.1.1.length vc, .int .i64 (g.lists.1.2 : Int)]) ∧ RefTo H w w' q g.lists.2 ∧ Rd w' 1 (.slice va g.lists.1.1.length vc) g.lists.1.1.length (g.lists.1.1.map fun n => .string (strB n)) := by
  obtain ⟨fin, hfin⟩ : ∃ y, g.lists = y := ⟨_, rfl⟩
  rw [hfin]
  have h0 : FR.tries2 FR.list [] (4 - 0) g = fin := hfin
  have H0 := Lib.hid (show RefTo H w w q g from ⟨H, h, Touch.refl _ _, Grows.refl _ _ _⟩)
  have HS0 := Lib.hid hs
  have HF0 := Lib.hid h0
  clear h hs h0
  go_enter Tryz.func24, Tryz.ntmps24
  go_wp2
  go_loopw [4] (fun i wr => ∃ (j : Nat) (g' : FR), j ≤ 4 ∧ i = .int .i64 j ∧ RefTo H w wr q g' ∧ RSm g' (m + j) ∧ FR.tries2 FR.list [] (4 - j) g' = fin) (fun i _ => 4 - (intOf i).toNat)
  case atStart => exact ⟨0, g, by omega, rfl, H0.out, HS0.out, HF0.out⟩
  case round =>
    obtain ⟨j, g', hj, rfl, hr, hsm, hf⟩ := hrel
    by_cases hlt : j < 4
    · obtain ⟨H1, r1, r2, r3⟩ := hr
      have hst := tries2_step (g := FR.list) (a0 := []) (f0 := g) hlt (hf.trans hfin.symm)
      rw [show FR.tries2 FR.list [] 4 g = fin from hfin] at hst
      have hg := rlist_at r1 (by have := hsm.objs; omega) (by have := hsm.calls; omega)
      have HG := Lib.hid hg
      have HR2 := Lib.hid r2
      have HR3 := Lib.hid r3
      have HSM := Lib.hid hsm.took
      clear r1 r2 r3 hg hf hsm
      obtain ⟨⟨l, r⟩, he⟩ : ∃ y, g'.list = y := ⟨_, rfl⟩
      rw [he] at HG hst
      dsimp only at HG hst
      clear he
      have HST := Lib.hid hst
      clear hst
      by_cases h8 : r = 8
      · subst h8
        go_wp2_with (go_at_call 40; (with_reducible refine HG.out.mono ?_); rintro e w2 ⟨v, rfl, k1, _⟩; have K1 := Lib.hid k1; clear k1)
        go_roundw
        case rel => exact ⟨j + 1, g'.took, by omega, by go_num, RefTo.trans HR2.out HR3.out K1.out, HSM.out, by simpa using HST.out⟩
        case measure => simp [intOf]; omega
      · have hne : ((r : Int) != 8) = true := by simp; omega
        have hfe : ((l, r), g'.took) = fin := by have := HST.out; rw [if_neg h8] at this; exact this
        go_wp2_with (go_at_call 40; (with_reducible refine HG.out.mono ?_); rintro e w2 ⟨v, rfl, k1, k2⟩; have K1 := Lib.hid k1; have k3 := rd_of_own k2; have K2 := Lib.hid k3; obtain ⟨va, vc, hv, _, _⟩ := k3; subst hv; clear k1 k2)
        go_ret2
        subst hfe
        exact ⟨va, vc, rfl, RefTo.trans HR2.out HR3.out K1.out, K2.out⟩
    · have h4 : j = 4 := by omega
      subst h4
      have hfe : (([], 8), g') = fin := hf
      have HR := Lib.hid hr
      clear hr
      go_wp2
      go_ret2
      subst hfe
      exact ⟨none, 0, rfl, HR.out, Rd.nil _ _⟩

set_option maxRecDepth 100000 in
set_option maxHeartbeats 4000000 in
set_option linter.unusedSimpArgs false in
theorem rcdrop_at {H : Nat → Prop} {w : World} {q : Nat} {g : FR} {m : Nat} (h : RefAt H w q g) (hs : RSm g m) (hm : m ≤ 10000) (hsr : Srt g.objs) (s : ByteArray) :
    Calls Tryz.prog 27 #[.pointer (some ⟨q, 0, none⟩), .string s] w fun e w' => e = .returned (.int .i64 ((g.cdrop s.data.toList).1 : Int)) ∧ RefTo H w w' q (g.cdrop s.data.toList).2 := by
  unfold FR.cdrop
  obtain ⟨⟨rr, ff⟩, hfin⟩ : ∃ y, FR.tries (·.drop s.data.toList) 4 g = y := ⟨_, rfl⟩
  rw [hfin]
  dsimp only
  have h0 : FR.tries (·.drop s.data.toList) (4 - 0) g = (rr, ff) := hfin
  have H0 := Lib.hid (show RefTo H w w q g from ⟨H, h, Touch.refl _ _, Grows.refl _ _ _⟩)
  have HS0 := Lib.hid hs
  have HF0 := Lib.hid h0
  have HSR0 := Lib.hid hsr
  clear h hs h0 hsr
  go_enter Tryz.func27, Tryz.ntmps27
  go_wp2
  go_loopw [5] (fun i wr => ∃ (j : Nat) (g' : FR), j ≤ 4 ∧ i = .int .i64 j ∧ RefTo H w wr q g' ∧ RSm g' (m + j) ∧ Srt g'.objs ∧ FR.tries (·.drop s.data.toList) (4 - j) g' = (rr, ff)) (fun i _ => 4 - (intOf i).toNat)
  case atStart => exact ⟨0, g, by omega, rfl, H0.out, HS0.out, HSR0.out, HF0.out⟩
  case round =>
    obtain ⟨j, g', hj, rfl, hr, hsm, hso, hf⟩ := hrel
    by_cases hlt : j < 4
    · obtain ⟨H1, r1, r2, r3⟩ := hr
      have hst := tries_step (g := (·.drop s.data.toList)) (f0 := g) hlt (hf.trans hfin.symm)
      rw [hfin] at hst
      have hg := rdrop_at r1 hso (by have := hsm.objs; omega) (by have := hsm.calls; omega) s
      have HG := Lib.hid hg
      have HR2 := Lib.hid r2
      have HR3 := Lib.hid r3
      have hsm2 := hsm.drop s.data.toList
      have hso2 := srt_drop hso s.data.toList
      clear r1 r2 r3 hg hf hsm hso
      obtain ⟨⟨r, f2⟩, he⟩ : ∃ y, g'.drop s.data.toList = y := ⟨_, rfl⟩
      rw [he] at HG hst hsm2 hso2
      dsimp only at HG hst hsm2 hso2
      clear he
      have HST := Lib.hid hst
      have HSM := Lib.hid hsm2
      have HSO := Lib.hid hso2
      clear hst hsm2 hso2
      by_cases h8 : r = 8
      · subst h8
        go_wp2_with (go_at_call 43; (with_reducible refine HG.out.mono ?_); rintro e w2 ⟨rfl, k1⟩; have K1 := Lib.hid k1; clear k1)
        go_roundw
        case rel => exact ⟨j + 1, f2, by omega, by go_num, RefTo.trans HR2.out HR3.out K1.out, HSM.out, HSO.out, by simpa using HST.out⟩
        case measure => simp [intOf]; omega
      · have hfe : (r, f2) = (rr, ff) := by have := HST.out; rw [if_neg h8] at this; exact this
        cases hfe
        by_cases h2 : rr = 2
        · subst h2
          go_wp2_with (go_at_call 43; (with_reducible refine HG.out.mono ?_); rintro e w2 ⟨rfl, k1⟩; have K1 := Lib.hid k1; clear k1)
          go_ret
          exact ⟨rfl, RefTo.trans HR2.out HR3.out K1.out⟩
        · have hn2 : ((rr : Int) == 2) = false := by simp; omega
          have hn8 : ((rr : Int) == 8) = false := by simp; omega
          go_wp2_with (go_at_call 43; (with_reducible refine HG.out.mono ?_); rintro e w2 ⟨rfl, k1⟩; have K1 := Lib.hid k1; clear k1)
          go_ret
          exact ⟨rfl, RefTo.trans HR2.out HR3.out K1.out⟩
    · have h4 : j = 4 := by omega
      subst h4
      have hfe : (8, g') = (rr, ff) := hf
      cases hfe
      have HR := Lib.hid hr
      clear hr
      go_wp2
      go_ret
      exact ⟨rfl, HR.out⟩

set_option maxRecDepth 100000 in
set_option maxHeartbeats 4000000 in
set_option linter.unusedSimpArgs false in
theorem rup_at {H : Nat → Prop} {w : World} {q : Nat} {g : FR} {m : Nat} (h : RefAt H w q g) (hs : RSm g m) (hm : m ≤ 1000) (s : ByteArray) (hsz : s.size ≤ maxLen) (v : Value) (b : List UInt8) (hv : RdB w v b) (hbl : b.length ≤ 300) (ov : b ≠ [] → ∀ k, v.ownBlock = some k → ¬ H k) :
    Calls Tryz.prog 18 #[.pointer (some ⟨q, 0, none⟩), .string s, v] w fun e w' => e = .returned (.int .i64 ((g.up s.data.toList b).1 : Int)) ∧ RefTo H w w' q (g.up s.data.toList b).2 := by
  have hv0 := hv
  obtain ⟨va, vc, rfl, _, _⟩ := RdB.form hv
  obtain ⟨⟨rr, ff⟩, hfin⟩ : ∃ y, FR.tries (·.put s.data.toList b) 4 g = y := ⟨_, rfl⟩
  have hup : g.up s.data.toList b = if rr = 3 then (if (ff.gets s.data.toList 0 1048576).1.2 = 0 then (if (ff.gets s.data.toList 0 1048576).1.1 = b then 0 else 3) else (ff.gets s.data.toList 0 1048576).1.2, (ff.gets s.data.toList 0 1048576).2) else (rr, ff) := by
    unfold FR.up
    rw [hfin]
  obtain ⟨⟨ur, uf⟩, hu⟩ : ∃ y, g.up s.data.toList b = y := ⟨_, rfl⟩
  rw [hu] at hup ⊢
  dsimp only
  have HUP := Lib.hid hup
  have h0 : FR.tries (·.put s.data.toList b) (4 - 0) g = (rr, ff) := hfin
  have H0 := Lib.hid (show RefTo H w w q g from ⟨H, h, Touch.refl _ _, Grows.refl _ _ _⟩)
  have HS0 := Lib.hid hs
  have HF0 := Lib.hid h0
  have HV := Lib.hid hv0
  have HOV := Lib.hid ov
  have HLT := Lib.hid (show ∀ k, b ≠ [] → (Value.slice va b.length vc).ownBlock = some k → k < w.heap.size from fun k hne e => hv0.blk_lt hne k e)
  clear h hs h0 hv hv0 ov hup hu
  have HRD := Lib.hid (show ∀ (w1 : World) (H1 : Nat → Prop), Touch H w w1 → Grows H H1 w w1 → RdB w1 (.slice va b.length vc) b ∧ (b ≠ [] → ∀ k, (Value.slice va b.length vc).ownBlock = some k → ¬ H1 k) from fun w1 H1 t gr => ⟨rd_touch HV.out t HOV.out, fun hne k e hk => by
    rcases gr k hk with e1 | e1
    · exact HOV.out hne k e e1
    · have := HLT.out k hne e; omega⟩)
  go_enter Tryz.func18, Tryz.ntmps18
  go_wp2
  go_loopw [7, 8] (fun ev i wr => ∃ (j r : Nat) (g' : FR), j ≤ 4 ∧ ev = .int .i64 r ∧ i = .int .i64 j ∧ RefTo H w wr q g' ∧ RSm g' (m + j) ∧ (if r = 8 then FR.tries (·.put s.data.toList b) (4 - j) g' = (rr, ff) else (r, g') = (rr, ff))) (fun _ i _ => 4 - (intOf i).toNat)
  case atStart => exact ⟨0, 8, g, by omega, rfl, rfl, H0.out, HS0.out, by rw [if_pos rfl]; exact HF0.out⟩
  case round =>
    obtain ⟨j, r, g', hj, rfl, rfl, hr, hsm, hf⟩ := hrel
    by_cases hgo : j < 4 ∧ r = 8
    · obtain ⟨hlt, rfl⟩ := hgo
      rw [if_pos rfl] at hf
      obtain ⟨H1, r1, r2, r3⟩ := hr
      have hst := tries_step (g := (·.put s.data.toList b)) (f0 := g) hlt (hf.trans hfin.symm)
      rw [hfin] at hst
      obtain ⟨k1, k2⟩ := HRD.out _ _ r2 r3
      have hg := rput_at r1 (by have := hsm.objs; omega) (by have := hsm.calls; omega) s hsz _ b k1 (by unfold maxLen; omega) k2
      have HG := Lib.hid hg
      have HR2 := Lib.hid r2
      have HR3 := Lib.hid r3
      have hsm2 := hsm.put s.data.toList b hbl
      clear r1 r2 r3 hg hf hsm k1 k2
      obtain ⟨⟨r', f2⟩, he⟩ : ∃ y, g'.put s.data.toList b = y := ⟨_, rfl⟩
      rw [he] at HG hst hsm2
      dsimp only at HG hst hsm2
      clear he
      have HST := Lib.hid hst
      have HSM := Lib.hid hsm2
      clear hst hsm2
      go_wp2_with (go_at_call 29; (with_reducible refine HG.out.mono ?_); rintro e w2 ⟨rfl, k1⟩; have K1 := Lib.hid k1; clear k1)
      go_roundw
      case rel => exact ⟨j + 1, r', f2, by omega, rfl, by go_num, RefTo.trans HR2.out HR3.out K1.out, HSM.out, by
        have := HST.out
        split at this
        · rename_i h8; rw [if_pos h8]; exact this
        · rename_i h8; rw [if_neg h8]; exact this⟩
      case measure => simp [intOf]; omega
    · have hfe : (r, g') = (rr, ff) := by
        by_cases h8 : r = 8
        · rw [if_pos h8] at hf
          have h4 : j = 4 := by omega
          subst h4; subst h8
          exact hf
        · rw [if_neg h8] at hf
          exact hf
      cases hfe
      obtain ⟨H1, r1, r2, r3⟩ := hr
      obtain ⟨k1, k2⟩ := HRD.out _ _ r2 r3
      have HDN := Lib.hid (rdown_at r1 hsm (by omega) s)
      have HR := Lib.hid (show RefTo H w wr q ff from ⟨H1, r1, r2, r3⟩)
      have HR2 := Lib.hid r2
      have HR3 := Lib.hid r3
      have HK1 := Lib.hid k1
      have HK2 := Lib.hid k2
      clear r1 r2 r3 k1 k2 hf hsm
      obtain ⟨⟨⟨l, r2⟩, f3⟩, he⟩ : ∃ y, ff.gets s.data.toList 0 1048576 = y := ⟨_, rfl⟩
      rw [he] at HDN HUP
      dsimp only at HDN HUP
      clear he
      by_cases h3 : rr = 3
      · subst h3
        have hup : (ur, uf) = ((if r2 = 0 then (if l = b then 0 else 3) else r2), f3) := by have := HUP.out; rw [if_pos rfl] at this; exact this
        by_cases hr2 : r2 = 0
        · subst hr2
          rw [if_pos rfl] at hup
          by_cases hlb : l = b
          · subst hlb
            rw [if_pos rfl] at hup
            cases hup
            by_cases hlt : j < 4
            · have hn8 : ((3 : Int) == 8) = false := by decide
              go_wp2_with (go_at_call 20; (with_reducible refine HDN.out.mono ?_); rintro e w3 ⟨xa, xc, rfl, j1, j2⟩; have hc1 := rdB_convert (P := Tryz.prog) j2 31 5 9 Tryz.underlying31 Tryz.underlying5 Tryz.underlying9; have hc2 := rdB_convert (P := Tryz.prog) (rd_touch HK1.out (show Touch H1 wr w3 by obtain ⟨_, _, t, _⟩ := j1; exact t) HK2.out) 31 5 9 Tryz.underlying31 Tryz.underlying5 Tryz.underlying9; have J1 := Lib.hid j1; clear j1 j2)
              go_ret
              exact ⟨rfl, RefTo.trans HR2.out HR3.out J1.out⟩
            · go_wp2_with (go_at_call 20; (with_reducible refine HDN.out.mono ?_); rintro e w3 ⟨xa, xc, rfl, j1, j2⟩; have hc1 := rdB_convert (P := Tryz.prog) j2 31 5 9 Tryz.underlying31 Tryz.underlying5 Tryz.underlying9; have hc2 := rdB_convert (P := Tryz.prog) (rd_touch HK1.out (show Touch H1 wr w3 by obtain ⟨_, _, t, _⟩ := j1; exact t) HK2.out) 31 5 9 Tryz.underlying31 Tryz.underlying5 Tryz.underlying9; have J1 := Lib.hid j1; clear j1 j2)
              go_ret
              exact ⟨rfl, RefTo.trans HR2.out HR3.out J1.out⟩
          · rw [if_neg hlb] at hup
            have hn1 : (l == b) = false := by simpa using hlb
            cases hup
            by_cases hlt : j < 4
            · have hn8 : ((3 : Int) == 8) = false := by decide
              go_wp2_with (go_at_call 20; (with_reducible refine HDN.out.mono ?_); rintro e w3 ⟨xa, xc, rfl, j1, j2⟩; have hc1 := rdB_convert (P := Tryz.prog) j2 31 5 9 Tryz.underlying31 Tryz.underlying5 Tryz.underlying9; have hc2 := rdB_convert (P := Tryz.prog) (rd_touch HK1.out (show Touch H1 wr w3 by obtain ⟨_, _, t, _⟩ := j1; exact t) HK2.out) 31 5 9 Tryz.underlying31 Tryz.underlying5 Tryz.underlying9; have J1 := Lib.hid j1; clear j1 j2)
              go_ret
              exact ⟨rfl, RefTo.trans HR2.out HR3.out J1.out⟩
            · go_wp2_with (go_at_call 20; (with_reducible refine HDN.out.mono ?_); rintro e w3 ⟨xa, xc, rfl, j1, j2⟩; have hc1 := rdB_convert (P := Tryz.prog) j2 31 5 9 Tryz.underlying31 Tryz.underlying5 Tryz.underlying9; have hc2 := rdB_convert (P := Tryz.prog) (rd_touch HK1.out (show Touch H1 wr w3 by obtain ⟨_, _, t, _⟩ := j1; exact t) HK2.out) 31 5 9 Tryz.underlying31 Tryz.underlying5 Tryz.underlying9; have J1 := Lib.hid j1; clear j1 j2)
              go_ret
              exact ⟨rfl, RefTo.trans HR2.out HR3.out J1.out⟩
        · rw [if_neg hr2] at hup
          have hnz : ((r2 : Int) != 0) = true := by simp; omega
          cases hup
          by_cases hlt : j < 4
          · have hn8 : ((3 : Int) == 8) = false := by decide
            go_wp2_with (go_at_call 20; (with_reducible refine HDN.out.mono ?_); rintro e w3 ⟨xa, xc, rfl, j1, j2⟩; have hc1 := rdB_convert (P := Tryz.prog) j2 31 5 9 Tryz.underlying31 Tryz.underlying5 Tryz.underlying9; have hc2 := rdB_convert (P := Tryz.prog) (rd_touch HK1.out (show Touch H1 wr w3 by obtain ⟨_, _, t, _⟩ := j1; exact t) HK2.out) 31 5 9 Tryz.underlying31 Tryz.underlying5 Tryz.underlying9; have J1 := Lib.hid j1; clear j1 j2)
            go_ret
            exact ⟨rfl, RefTo.trans HR2.out HR3.out J1.out⟩
          · go_wp2_with (go_at_call 20; (with_reducible refine HDN.out.mono ?_); rintro e w3 ⟨xa, xc, rfl, j1, j2⟩; have hc1 := rdB_convert (P := Tryz.prog) j2 31 5 9 Tryz.underlying31 Tryz.underlying5 Tryz.underlying9; have hc2 := rdB_convert (P := Tryz.prog) (rd_touch HK1.out (show Touch H1 wr w3 by obtain ⟨_, _, t, _⟩ := j1; exact t) HK2.out) 31 5 9 Tryz.underlying31 Tryz.underlying5 Tryz.underlying9; have J1 := Lib.hid j1; clear j1 j2)
            go_ret
            exact ⟨rfl, RefTo.trans HR2.out HR3.out J1.out⟩
      · have hup : (ur, uf) = (rr, ff) := by have := HUP.out; rw [if_neg h3] at this; exact this
        have hn3 : ((rr : Int) != 3) = true := by simp; omega
        cases hup
        by_cases hlt : j < 4
        · have hn8 : ((rr : Int) == 8) = false := by simp; omega
          go_wp2
          go_ret
          exact ⟨rfl, HR.out⟩
        · go_wp2
          go_ret
          exact ⟨rfl, HR.out⟩
end Go.Proofs.YtljjgpjaleekdaaGreatDoor
