/-
  A disk of a statement's own: the calls that XDiskOn has not; bytes that were told and are held.
-/
import Derived.Test.YtkobjbjakgfhcaaDiskOn
import Derived.Test.YtkobjbjakgfhcaaDiskRead
import Derived.Test.YtkobjbjakgfhcaaDiskSize
import Derived.Test.YtkobjbjakgfhcaaDiskMove
namespace Go.Proofs.Ytkobjbjakgfhcaa
open Go.RowKit

theorem on_wrote {W w : World} {p : Nat} {g : Gh} {r : Nat × PD} (hb : Below W.heap.size W w) (hF : ∀ k, g.F k → W.heap.size ≤ k) {f : Nat} {args : Array Value} (h : Calls Try.prog f args w (Wrote g w p r)) : Calls Try.prog f args w fun e w' => e = .returned (.int .i64 (r.1 : Int)) ∧ On W w' p r.2 := by
  refine h.mono ?_
  rintro e w' ⟨rfl, g', k1, k2⟩
  exact ⟨rfl, on_step hb hF k1 k2⟩

theorem on_safe {W w : World} {p : Nat} {d : PD} (h : On W w p d) (hsm : Small d) (hcl : d.calls + 1 < 10000) (s : ByteArray) (hs : s.size ≤ maxLen) (r : Nat) (d' : PD) (he : d.makeSafe s.data.toList = (r, d')) :
    Calls Try.prog 22 #[.pointer (some ⟨p, 0, none⟩), .string s] w fun e w' => e = .returned (.int .i64 (r : Int)) ∧ On W w' p d' := by
  obtain ⟨g, h1, h2, h3⟩ := h
  have hm := safe_at h1 hsm hcl s hs
  rw [he] at hm
  refine hm.mono ?_
  rintro e w' ⟨rfl, g', k1, k2⟩
  exact ⟨rfl, on_step h2 h3 k1 k2⟩

theorem on_move {W w : World} {p : Nat} {d : PD} (h : On W w p d) (hsm : Small d) (hcl : d.calls + 1 < 10000) (s t : ByteArray) (hs : s.size ≤ maxLen) (ht : t.size ≤ maxLen) (r : Nat) (d' : PD) (he : d.move s.data.toList t.data.toList = (r, d')) :
    Calls Try.prog 32 #[.pointer (some ⟨p, 0, none⟩), .string s, .string t] w fun e w' => e = .returned (.int .i64 (r : Int)) ∧ On W w' p d' := by
  obtain ⟨g, h1, h2, h3⟩ := h
  have hm := move_at h1 hsm hcl s t hs ht
  rw [he] at hm
  exact on_wrote h2 h3 hm

theorem on_names {W w : World} {p : Nat} {d : PD} (h : On W w p d) (hsm : Small d) (hnd : (d.names.map (·.2)).Nodup) (hcl : d.calls + 1 < 10000) (r : Nat) (d' : PD) (he : d.nameSafe = (r, d')) :
    Calls Try.prog 36 #[.pointer (some ⟨p, 0, none⟩)] w fun e w' => e = .returned (.int .i64 (r : Int)) ∧ On W w' p d' := by
  obtain ⟨g, h1, h2, h3⟩ := h
  have hm := names_at h1 hsm hnd hcl
  rw [he] at hm
  exact on_wrote h2 h3 hm

theorem on_size {W w : World} {p : Nat} {d : PD} (h : On W w p d) (hsm : Small d) (s : ByteArray) (hs : s.size ≤ maxLen) (n : Nat) (ok : Bool) (he : d.size s.data.toList = (n, ok)) :
    Calls Try.prog 39 #[.pointer (some ⟨p, 0, none⟩), .string s] w fun e w' => e = .returned (.tuple #[.int .i64 (n : Int), .bool ok]) ∧ w = w' := by
  obtain ⟨g, h1, h2, h3⟩ := h
  have hm := size_at h1 hsm s hs
  rw [he] at hm
  exact hm

theorem on_down {W w : World} {p : Nat} {d : PD} (h : On W w p d) : Calls Try.prog 14 #[.pointer (some ⟨p, 0, none⟩)] w fun e w' => e = .returned (.bool d.down) ∧ w = w' := by
  obtain ⟨g, h1, _⟩ := h
  exact down_any w p d.down (blk_cell h1.blk)

theorem on_calls {W w : World} {p : Nat} {d : PD} (h : On W w p d) (n : Nat) (hn : d.calls = n) : Calls Try.prog 16 #[.pointer (some ⟨p, 0, none⟩)] w fun e w' => e = .returned (.int .i64 (n : Int)) ∧ w = w' := by
  obtain ⟨g, h1, _⟩ := h
  rw [← hn]
  exact calls_any w p (d.calls : Int) (blk_cell h1.blk)

theorem on_files {W w : World} {p : Nat} {d : PD} (h : On W w p d) (hsm : Small d) (l : List (List UInt8 × List UInt8 × Nat)) (hl : d.list = l) :
    Calls Try.prog 12 #[.pointer (some ⟨p, 0, none⟩)] w fun e w' => ∃ va vc, e = .returned (.slice va l.length vc) ∧ On W w' p d ∧ Rd w' 3 (.slice va l.length vc) l.length (fiCells l) := by
  obtain ⟨g, h1, h2, h3⟩ := h
  refine (files_at h1 hsm).mono ?_
  rw [hl]
  rintro e w' ⟨v, rfl, k1, k2⟩
  have hr := rd_of_own k1
  obtain ⟨va, vc, rfl, _, _⟩ := rd_of_own k1
  exact ⟨va, vc, rfl, ⟨g, h1.below k2, h2.trans (k2.mono h2.size), h3⟩, hr⟩

/-- .. and the bytes 'l', that were told, can be read. -/
def OnR (W w : World) (p : Nat) (d : PD) (v : Value) (l : List UInt8) : Prop := ∃ g, DiskAt g w p d ∧ Below W.heap.size W w ∧ (∀ k, g.F k → W.heap.size ≤ k) ∧ RdB w v l ∧ (l ≠ [] → ∀ k, v.ownBlock = some k → ¬ g.F k)

theorem OnR.on {W w : World} {p : Nat} {d : PD} {v : Value} {l : List UInt8} (h : OnR W w p d v l) : On W w p d := by
  obtain ⟨g, h1, h2, h3, _⟩ := h
  exact ⟨g, h1, h2, h3⟩
theorem OnR.rd {W w : World} {p : Nat} {d : PD} {v : Value} {l : List UInt8} (h : OnR W w p d v l) : RdB w v l := by
  obtain ⟨g, _, _, _, h, _⟩ := h
  exact h

theorem RdB.blk_lt {w : World} {v : Value} {l : List UInt8} (h : RdB w v l) (hne : l ≠ []) : ∀ k, v.ownBlock = some k → k < w.heap.size := by
  intro k e
  obtain ⟨a, cap, rfl, h1, h2, h0, h3⟩ := h
  rcases h3 with h3 | ⟨b, off, rfl, h4, h5⟩
  · exact absurd (List.eq_nil_of_length_eq_zero h3.1) hne
  · cases e; exact h4

theorem onr_step {W w w' : World} {p : Nat} {d' : PD} {g g' : Gh} {v : Value} {l : List UInt8} (hb : Below W.heap.size W w) (hF : ∀ k, g.F k → W.heap.size ≤ k) (hr : RdB w v l) (hv : l ≠ [] → ∀ k, v.ownBlock = some k → ¬ g.F k) (hd : DiskAt g' w' p d') (hs : Step g g' w w') : OnR W w' p d' v l := by
  obtain ⟨g2, h1, h2, h3⟩ := on_step hb hF hd hs
  refine ⟨g', hd, ?_, ?_, ?_, ?_⟩
  · exact h2
  · intro k hk
    rcases hs.new k hk with h | h
    · exact hF k h
    · have := hb.size; omega
  · exact rdB_kept hr hs.touch fun hne k e hk => ⟨hk, hv hne k e⟩
  · intro hne k e hk
    rcases hs.new k hk with h | h
    · exact hv hne k e h
    · have := hr.blk_lt hne k e; omega

theorem on_read {W w : World} {p : Nat} {d : PD} (h : On W w p d) (hsm : Small d) (s : ByteArray) (hs : s.size ≤ maxLen) (a n : Int) (l : List UInt8) (r : Nat) (he : d.read s.data.toList a n = (l, r)) :
    Calls Try.prog 20 #[.pointer (some ⟨p, 0, none⟩), .string s, .int .i64 a, .int .i64 n] w fun e w' => ∃ va vc, e = .returned (.tuple #[.slice va l.length vc, .int .i64 (r : Int)]) ∧ OnR W w' p d (.slice va l.length vc) l := by
  obtain ⟨g, h1, h2, h3⟩ := h
  have hm := read_at h1 hsm s hs a n
  rw [he] at hm
  refine hm.mono ?_
  rintro e w' ⟨v, rfl, k1, k2, k3⟩
  obtain ⟨va, vc, rfl, _, _⟩ := RdB.form k2
  exact ⟨va, vc, rfl, g, h1.below k1, h2.trans (k1.mono h2.size), h3, k2, fun _ k e hF => by have := k3 k e; have := h1.olt k hF; omega⟩

/-- A Read while other bytes are held. -/
theorem onr_read {W w : World} {p : Nat} {d : PD} {vh : Value} {lh : List UInt8} (h : OnR W w p d vh lh) (hsm : Small d) (s : ByteArray) (hs : s.size ≤ maxLen) (a n : Int) (l : List UInt8) (r : Nat) (he : d.read s.data.toList a n = (l, r)) :
    Calls Try.prog 20 #[.pointer (some ⟨p, 0, none⟩), .string s, .int .i64 a, .int .i64 n] w fun e w' => ∃ va vc, e = .returned (.tuple #[.slice va l.length vc, .int .i64 (r : Int)]) ∧ OnR W w' p d vh lh ∧ RdB w' (.slice va l.length vc) l := by
  obtain ⟨g, h1, h2, h3, hr, hv⟩ := h
  have hm := read_at h1 hsm s hs a n
  rw [he] at hm
  refine hm.mono ?_
  rintro e w' ⟨v, rfl, k1, k2, k3⟩
  obtain ⟨va, vc, rfl, _, _⟩ := RdB.form k2
  exact ⟨va, vc, rfl, ⟨g, h1.below k1, h2.trans (k1.mono h2.size), h3, hr.below k1 (Nat.le_refl _), hv⟩, k2⟩

theorem on_fallR {W w : World} {p : Nat} {d : PD} {vh : Value} {lh : List UInt8} (h : OnR W w p d vh lh) (w2 : World) (hb : Below w.heap.size w w2) (room crash names : Int) (done : Bool) (kv : Value) (keep : List Int) (hnn : (Lit.int .i64 names).wf = true) (hkw : ∀ v ∈ keep, (Lit.int .i64 v).wf = true) (hkl : keep.length < 1000000)
    (hkv : (kv = .slice none 0 0 ∧ keep = []) ∨ ∃ kb cap, kv = .slice (some ⟨kb, 0, none⟩) keep.length cap ∧ 0 < keep.length ∧ w.heap.size ≤ kb ∧ kb < w2.heap.size ∧ ∀ (i : Nat) (v : Int), keep[i]? = some v → w2.cell? ⟨kb, i, none⟩ = some (.int .i64 v))
    (hsm : ∀ k, Small (d.redone k)) (hsm2 : ∀ k, Small ((d.redone (rest names d.loose.length)).fell keep k)) (hnd : ((d.redone (rest names d.loose.length)).names.map (·.2)).Nodup) (d' : PD)
    (hd' : (((d.redone (rest names d.loose.length)).fell keep (d.redone (rest names d.loose.length)).names.length).settled).begun room crash done = d') :
    Calls Try.prog 23 #[.pointer (some ⟨p, 0, none⟩), .agg #[.int .i64 room, .int .i64 crash, .bool done, kv, .int .i64 names]] w2 fun e w' => e = .returned (.tuple #[]) ∧ OnR W w' p d' vh lh := by
  obtain ⟨g, h1, h2, h3, hr, hv⟩ := h
  have hi : IntsAt g w2 kv keep := by
    rcases hkv with h | ⟨kb, cap, e1, e2, e3, e4, e5⟩
    · exact .inl h
    · exact .inr ⟨kb, 0, cap, e1, e2, e4, fun hF => by have := h1.olt kb hF; omega, fun i v hv => by rw [Nat.zero_add]; exact e5 i v hv⟩
  have hm := fall_at (h1.below hb) room crash names done kv keep hnn hkw hkl hi hsm hsm2 hnd
  rw [hd'] at hm
  refine hm.mono ?_
  rintro e w' ⟨rfl, g', k1, k2⟩
  exact ⟨rfl, onr_step (h2.trans (hb.mono h2.size)) h3 (hr.below hb (Nat.le_refl _)) hv k1 k2⟩

theorem On.toR {W w : World} {p : Nat} {d : PD} (h : On W w p d) : OnR W w p d (.slice none 0 0) [] := by
  obtain ⟨g, h1, h2, h3⟩ := h
  exact ⟨g, h1, h2, h3, Rd.nil _ _, fun h => absurd rfl h⟩
end Go.Proofs.Ytkobjbjakgfhcaa
