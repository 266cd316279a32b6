import Derived.Test.YtmlijnekidihbaaMg07
import Derived.Test.YtmlijnekidihbaaMg08

/-
  The disk of a cache: a disk with one file, or none; what its changes leave.
-/
namespace Go.Proofs.Ytmlijnekidihbaa
open Go.RowKit

/-- How the file was made. -/
def mkC : PC := ⟨0, [], cName, 0⟩
/-- No file, or one that holds nothing but pieces of 'D'; its name is loose, or safe. -/
def DShape (D : CKey → List UInt8 → Prop) (d : PD) : Prop := (d.files = [] ∧ d.names = [] ∧ d.safe = [] ∧ d.loose = []) ∨ ∃ f, d.files = [f] ∧ d.names = [(cName, 0)] ∧ ((d.safe = [] ∧ d.loose = [mkC]) ∨ (d.safe = [(cName, 0)] ∧ d.loose = [])) ∧ FI D f d.calls

/-- What the file holds, if there is one. -/
def cur (d : PD) : Option (List UInt8) := (dfind d.names cName).map fun id => (d.file id).now
theorem cFile_cur (d : PD) : cFile d = if d.down then [] else (cur d).getD [] := by
  unfold cFile cur
  cases dfind d.names cName <;> rfl

theorem cdfind0 : dfind [] cName = none := rfl
theorem cdfind1 : dfind [(cName, 0)] cName = some 0 := by decide
theorem mkC_ok : ChOk mkC := ⟨by decide, by decide, by decide, by decide⟩

section
variable {D : CKey → List UInt8 → Prop} {d : PD}

theorem DShape.small (h : DShape D d) (hc : d.calls ≤ 9998) : Small d := by
  rcases h with ⟨h1, h2, h3, h4⟩ | ⟨f, h1, h2, h3, h4⟩
  · exact ⟨by rw [h1]; simp, by rw [h4]; decide, by rw [h2]; decide, by rw [h3]; decide, by omega, by rw [h2]; simp, by rw [h3]; simp, by rw [h4]; simp, by rw [h1]; simp, by rw [h2]; simp, by rw [h3]; simp⟩
  · have hf := h4.fok (by omega : d.calls ≤ 9999)
    have hn : ∀ x ∈ ([(cName, 0)] : DB), x.2 < 1 ∧ x.1.length < 1000 := by decide
    rcases h3 with ⟨h5, h6⟩ | ⟨h5, h6⟩
    · exact ⟨by rw [h1]; simp, by rw [h6]; decide, by rw [h2]; decide, by rw [h5]; decide, by omega, by rw [h2, h1]; exact fun x hx => (hn x hx).1, by rw [h5]; simp, by rw [h6]; intro c hc; simp at hc; subst hc; exact mkC_ok, by rw [h1]; intro g hg; simp at hg; subst hg; exact hf, by rw [h2]; exact fun x hx => (hn x hx).2, by rw [h5]; simp⟩
    · exact ⟨by rw [h1]; simp, by rw [h6]; decide, by rw [h2]; decide, by rw [h5]; decide, by omega, by rw [h2, h1]; exact fun x hx => (hn x hx).1, by rw [h5, h1]; exact fun x hx => (hn x hx).1, by rw [h6]; simp, by rw [h1]; intro g hg; simp at hg; subst hg; exact hf, by rw [h2]; exact fun x hx => (hn x hx).2, by rw [h5]; exact fun x hx => (hn x hx).2⟩

/-- What a change of the disk leaves for a cache. -/
structure Did (D : CKey → List UInt8 → Prop) (d d' : PD) : Prop where
  sh : DShape D d'
  calls : d'.calls ≤ d.calls + 1
  room : d'.room = d.room
  crash : d'.crash = d.crash

theorem did_self (h : DShape D d) : Did D d d := ⟨h, Nat.le_succ _, rfl, rfl⟩

/-- It tells no errors. -/
def Sound (d : PD) : Prop := d.down = false ∧ d.crash < 1 ∧ d.room = 1048576

theorem cur_good (h : DShape D d) {F : List UInt8} (hF : cur d = some F) : GoodF D F := by
  rcases h with ⟨_, h2, _, _⟩ | ⟨f, h1, h2, _, h4⟩
  · unfold cur at hF; rw [h2, cdfind0] at hF; cases hF
  · unfold cur PD.file at hF
    rw [h2, cdfind1, h1] at hF
    simp at hF
    rw [← hF]; exact h4.nowg

theorem cFile_good (h : DShape D d) : GoodF D (cFile d) := by
  rw [cFile_cur]
  by_cases hd : d.down = true
  · rw [if_pos hd]; exact good_nil D
  · rw [if_neg hd]
    cases hc : cur d with
    | none => exact good_nil D
    | some F => exact cur_good h hc

theorem dwrite (h : DShape D d) (a : Nat) (l : List UInt8) (hl : l.length ≤ 564) (hg : ∀ F, cur d = some F → a ≤ F.length → ∀ j, GoodF D (wr F a (l.take j))) :
    Did D d (d.write cName (a : Int) l).2 ∧ (((d.write cName (a : Int) l).1 ≠ 0 ∧ (d.write cName (a : Int) l).2 = d) ∨ ((d.write cName (a : Int) l).1 ≠ 0 ∧ (d.write cName (a : Int) l).2.down = true) ∨ ((d.write cName (a : Int) l).1 = 0 ∧ d.down = false ∧ (d.write cName (a : Int) l).2.down = false ∧ ∃ F, cur d = some F ∧ a ≤ F.length ∧ cur (d.write cName (a : Int) l).2 = some (wr F a l))) ∧
    (Sound d → (∃ F, cur d = some F ∧ a ≤ F.length ∧ a + l.length ≤ 36160) → (d.write cName (a : Int) l).1 = 0) := by
  obtain ⟨room, crash, done, calls, down, files, names, safe, loose⟩ := d
  by_cases hd : down = true
  · have e : PD.write ⟨room, crash, done, calls, down, files, names, safe, loose⟩ cName (a : Int) l = (7, ⟨room, crash, done, calls, down, files, names, safe, loose⟩) := by
      unfold PD.write; rw [if_pos hd]
    rw [e]
    exact ⟨did_self h, .inl ⟨by simp, rfl⟩, fun hs _ => by have := hs.1; simp at this; rw [this] at hd; cases hd⟩
  · obtain rfl : down = false := by simpa using hd
    clear hd
    rcases h with ⟨h1, h2, h3, h4⟩ | ⟨f, h1, h2, h3, h4⟩
    · have h2' : names = [] := h2
      subst h2'
      have e : PD.write ⟨room, crash, done, calls, false, files, [], safe, loose⟩ cName (a : Int) l = (2, ⟨room, crash, done, calls, false, files, [], safe, loose⟩) := rfl
      rw [e]
      exact ⟨did_self (.inl ⟨h1, rfl, h3, h4⟩), .inl ⟨by simp, rfl⟩, fun _ ⟨F, hF, _⟩ => by cases hF⟩
    · have h1' : files = [f] := h1
      have h2' : names = [(cName, 0)] := h2
      subst h1' h2'
      have hcur : cur ⟨room, crash, done, calls, false, [f], [(cName, 0)], safe, loose⟩ = some f.now := rfl
      have hu : PD.used ⟨room, crash, done, calls, false, [f], [(cName, 0)], safe, loose⟩ = f.now.length := by show f.now.length + 0 = _; omega
      by_cases hbad : f.now.length < a
      · have e : PD.write ⟨room, crash, done, calls, false, [f], [(cName, 0)], safe, loose⟩ cName (a : Int) l = (1, ⟨room, crash, done, calls, false, [f], [(cName, 0)], safe, loose⟩) := by
          unfold PD.write
          rw [show dfind [(cName, 0)] cName = some 0 from cdfind1, if_neg (by simp)]
          show (if (a : Int) < 0 ∨ (f.now.length : Int) < (a : Int) then _ else _) = _
          rw [if_pos (.inr (by omega))]
        rw [e]
        exact ⟨did_self (.inr ⟨f, rfl, rfl, h3, h4⟩), .inl ⟨by simp, rfl⟩, fun _ ⟨F, hF, h5, _⟩ => by rw [hcur] at hF; cases hF; omega⟩
      · have hgw := hg f.now hcur (by omega)
        have e1 : PD.write ⟨room, crash, done, calls, false, [f], [(cName, 0)], safe, loose⟩ cName (a : Int) l = if (1048576 : Int) < (a : Int) + (l.length : Int) then (4, ⟨room, crash, done, calls, false, [f], [(cName, 0)], safe, loose⟩) else if room < (f.now.length : Int) + max 0 ((a : Int) + (l.length : Int) - (f.now.length : Int)) then (6, ⟨room, crash, done, calls, false, [f], [(cName, 0)], safe, loose⟩) else
            (PD.err ⟨room, crash, done, calls, false, [f], [(cName, 0)], safe, loose⟩, PD.after ⟨room, crash, done, calls, false, [f], [(cName, 0)], safe, loose⟩ fun d => { d with files := d.files.set 0 ((d.file 0).wrote a l) }) := by
          unfold PD.write
          rw [show dfind [(cName, 0)] cName = some 0 from cdfind1, if_neg (by simp), hu]
          show (if (a : Int) < 0 ∨ (f.now.length : Int) < (a : Int) then _ else _) = _
          rw [if_neg (by omega)]
          rfl
        rw [e1]
        by_cases b1 : (1048576 : Int) < (a : Int) + (l.length : Int)
        · rw [if_pos b1]
          exact ⟨did_self (.inr ⟨f, rfl, rfl, h3, h4⟩), .inl ⟨by simp, rfl⟩, fun _ ⟨F, _, _, h5⟩ => by omega⟩
        · rw [if_neg b1]
          by_cases b2 : room < (f.now.length : Int) + max 0 ((a : Int) + (l.length : Int) - (f.now.length : Int))
          · rw [if_pos b2]
            refine ⟨did_self (.inr ⟨f, rfl, rfl, h3, h4⟩), .inl ⟨by simp, rfl⟩, fun hs ⟨F, hF, _, h5⟩ => ?_⟩
            have h6 : room = 1048576 := hs.2.2
            have h7 := h4.nowg.1
            omega
          · rw [if_neg b2]
            have hw := fi_wrote h4 (by omega) hl hgw
            by_cases hdn : ((calls : Int) + 1 = crash)
            · have er : PD.err ⟨room, crash, done, calls, false, [f], [(cName, 0)], safe, loose⟩ = 7 := by unfold PD.err PD.dn; simp [hdn]
              rw [er]
              cases done with
              | true =>
                have ea : PD.after ⟨room, crash, true, calls, false, [f], [(cName, 0)], safe, loose⟩ (fun d => { d with files := d.files.set 0 ((d.file 0).wrote a l) }) = ⟨room, crash, true, calls + 1, true, [f.wrote a l], [(cName, 0)], safe, loose⟩ := by
                  unfold PD.after PD.isdo PD.cnt PD.dn
                  simp [hdn, PD.file]
                rw [ea]
                exact ⟨⟨.inr ⟨_, rfl, rfl, h3, hw⟩, Nat.le_refl _, rfl, rfl⟩, .inr (.inl ⟨by simp, rfl⟩), fun hs _ => by have := hs.2.1; simp at this; omega⟩
              | false =>
                have ea : PD.after ⟨room, crash, false, calls, false, [f], [(cName, 0)], safe, loose⟩ (fun d => { d with files := d.files.set 0 ((d.file 0).wrote a l) }) = ⟨room, crash, false, calls + 1, true, [f], [(cName, 0)], safe, loose⟩ := by
                  unfold PD.after PD.isdo PD.cnt PD.dn
                  simp [hdn]
                rw [ea]
                exact ⟨⟨.inr ⟨_, rfl, rfl, h3, h4.mono (Nat.le_succ _)⟩, Nat.le_refl _, rfl, rfl⟩, .inr (.inl ⟨by simp, rfl⟩), fun hs _ => by have := hs.2.1; simp at this; omega⟩
            · have er : PD.err ⟨room, crash, done, calls, false, [f], [(cName, 0)], safe, loose⟩ = 0 := by unfold PD.err PD.dn; simp [hdn]
              have ea : PD.after ⟨room, crash, done, calls, false, [f], [(cName, 0)], safe, loose⟩ (fun d => { d with files := d.files.set 0 ((d.file 0).wrote a l) }) = ⟨room, crash, done, calls + 1, false, [f.wrote a l], [(cName, 0)], safe, loose⟩ := by
                unfold PD.after PD.isdo PD.cnt PD.dn
                simp [hdn, PD.file]
              rw [er, ea]
              exact ⟨⟨.inr ⟨_, rfl, rfl, h3, hw⟩, Nat.le_refl _, rfl, rfl⟩, .inr (.inr ⟨rfl, rfl, rfl, f.now, rfl, by omega, rfl⟩), fun _ _ => rfl⟩

theorem dsafe (h : DShape D d) : Did D d (d.makeSafe cName).2 ∧ ((d.makeSafe cName).2 = d ∨ (d.makeSafe cName).2.down = true ∨ (d.down = false ∧ (d.makeSafe cName).2.down = false ∧ cur (d.makeSafe cName).2 = cur d)) ∧ (Sound d → (d.makeSafe cName).2.down = false) := by
  obtain ⟨room, crash, done, calls, down, files, names, safe, loose⟩ := d
  by_cases hd : down = true
  · have e : PD.makeSafe ⟨room, crash, done, calls, down, files, names, safe, loose⟩ cName = (7, ⟨room, crash, done, calls, down, files, names, safe, loose⟩) := by
      unfold PD.makeSafe; rw [if_pos hd]
    rw [e]
    exact ⟨did_self h, .inl rfl, fun hs => hs.1⟩
  · obtain rfl : down = false := by simpa using hd
    clear hd
    rcases h with ⟨h1, h2, h3, h4⟩ | ⟨f, h1, h2, h3, h4⟩
    · have h2' : names = [] := h2
      subst h2'
      have e : PD.makeSafe ⟨room, crash, done, calls, false, files, [], safe, loose⟩ cName = (2, ⟨room, crash, done, calls, false, files, [], safe, loose⟩) := rfl
      rw [e]
      exact ⟨did_self (.inl ⟨h1, rfl, h3, h4⟩), .inl rfl, fun hs => hs.1⟩
    · have h1' : files = [f] := h1
      have h2' : names = [(cName, 0)] := h2
      subst h1' h2'
      have e1 : PD.makeSafe ⟨room, crash, done, calls, false, [f], [(cName, 0)], safe, loose⟩ cName = (PD.err ⟨room, crash, done, calls, false, [f], [(cName, 0)], safe, loose⟩, PD.after ⟨room, crash, done, calls, false, [f], [(cName, 0)], safe, loose⟩ fun d => { d with files := d.files.set 0 (d.file 0).safed }) := by
        unfold PD.makeSafe
        rw [show dfind [(cName, 0)] cName = some 0 from cdfind1, if_neg (by simp)]
      rw [e1]
      have hw := fi_safed h4
      by_cases hdn : ((calls : Int) + 1 = crash)
      · cases done with
        | true =>
          have ea : PD.after ⟨room, crash, true, calls, false, [f], [(cName, 0)], safe, loose⟩ (fun d => { d with files := d.files.set 0 (d.file 0).safed }) = ⟨room, crash, true, calls + 1, true, [f.safed], [(cName, 0)], safe, loose⟩ := by
            unfold PD.after PD.isdo PD.cnt PD.dn
            simp [hdn, PD.file]
          rw [ea]
          exact ⟨⟨.inr ⟨_, rfl, rfl, h3, hw.mono (Nat.le_succ _)⟩, Nat.le_refl _, rfl, rfl⟩, .inr (.inl rfl), fun hs => by have := hs.2.1; simp at this; omega⟩
        | false =>
          have ea : PD.after ⟨room, crash, false, calls, false, [f], [(cName, 0)], safe, loose⟩ (fun d => { d with files := d.files.set 0 (d.file 0).safed }) = ⟨room, crash, false, calls + 1, true, [f], [(cName, 0)], safe, loose⟩ := by
            unfold PD.after PD.isdo PD.cnt PD.dn
            simp [hdn]
          rw [ea]
          exact ⟨⟨.inr ⟨_, rfl, rfl, h3, h4.mono (Nat.le_succ _)⟩, Nat.le_refl _, rfl, rfl⟩, .inr (.inl rfl), fun hs => by have := hs.2.1; simp at this; omega⟩
      · have ea : PD.after ⟨room, crash, done, calls, false, [f], [(cName, 0)], safe, loose⟩ (fun d => { d with files := d.files.set 0 (d.file 0).safed }) = ⟨room, crash, done, calls + 1, false, [f.safed], [(cName, 0)], safe, loose⟩ := by
          unfold PD.after PD.isdo PD.cnt PD.dn
          simp [hdn, PD.file]
        rw [ea]
        exact ⟨⟨.inr ⟨_, rfl, rfl, h3, hw.mono (Nat.le_succ _)⟩, Nat.le_refl _, rfl, rfl⟩, .inr (.inr ⟨rfl, rfl, rfl⟩), fun _ => rfl⟩

theorem dmake (h : DShape D d) (hn : cur d = none) : Did D d (d.make cName).2 ∧ (((d.make cName).2 = d ∧ d.down = true) ∨ (d.make cName).2.down = true ∨ (d.down = false ∧ (d.make cName).2.down = false ∧ cur (d.make cName).2 = some [])) ∧ (Sound d → (d.make cName).2.down = false ∧ cur (d.make cName).2 = some []) := by
  rcases h with ⟨h1, h2, h3, h4⟩ | ⟨f, h1, h2, _, _⟩
  · obtain ⟨room, crash, done, calls, down, files, names, safe, loose⟩ := d
    have h1' : files = [] := h1
    have h2' : names = [] := h2
    have h3' : safe = [] := h3
    have h4' : loose = [] := h4
    subst h1' h2' h3' h4'
    by_cases hd : down = true
    · have e : PD.make ⟨room, crash, done, calls, down, [], [], [], []⟩ cName = (7, ⟨room, crash, done, calls, down, [], [], [], []⟩) := by
        unfold PD.make; rw [if_pos hd]
      rw [e]
      exact ⟨did_self (.inl ⟨rfl, rfl, rfl, rfl⟩), .inl ⟨rfl, hd⟩, fun hs => by have := hs.1; simp at this; rw [this] at hd; cases hd⟩
    · obtain rfl : down = false := by simpa using hd
      clear hd
      have hok : nmOk cName = true := by decide
      have e1 : PD.make ⟨room, crash, done, calls, false, [], [], [], []⟩ cName = (PD.err ⟨room, crash, done, calls, false, [], [], [], []⟩, PD.after ⟨room, crash, done, calls, false, [], [], [], []⟩ (·.makes cName)) := by
        unfold PD.make
        rw [hok]
        rfl
      rw [e1]
      have hren : ren [] ⟨0, [], cName, 0⟩ = [(cName, 0)] := by decide
      by_cases hdn : ((calls : Int) + 1 = crash)
      · cases done with
        | true =>
          have ea : PD.after ⟨room, crash, true, calls, false, [], [], [], []⟩ (·.makes cName) = ⟨room, crash, true, calls + 1, true, [PF.new], [(cName, 0)], [], [mkC]⟩ := by
            unfold PD.after PD.isdo PD.cnt PD.dn PD.makes
            simp [hdn, hren, mkC]
          rw [ea]
          exact ⟨⟨.inr ⟨_, rfl, rfl, .inl ⟨rfl, rfl⟩, fi_new D _⟩, Nat.le_refl _, rfl, rfl⟩, .inr (.inl rfl), fun hs => by have := hs.2.1; simp at this; omega⟩
        | false =>
          have ea : PD.after ⟨room, crash, false, calls, false, [], [], [], []⟩ (·.makes cName) = ⟨room, crash, false, calls + 1, true, [], [], [], []⟩ := by
            unfold PD.after PD.isdo PD.cnt PD.dn
            simp [hdn]
          rw [ea]
          exact ⟨⟨.inl ⟨rfl, rfl, rfl, rfl⟩, Nat.le_refl _, rfl, rfl⟩, .inr (.inl rfl), fun hs => by have := hs.2.1; simp at this; omega⟩
      · have ea : PD.after ⟨room, crash, done, calls, false, [], [], [], []⟩ (·.makes cName) = ⟨room, crash, done, calls + 1, false, [PF.new], [(cName, 0)], [], [mkC]⟩ := by
          unfold PD.after PD.isdo PD.cnt PD.dn PD.makes
          simp [hdn, hren, mkC]
        rw [ea]
        exact ⟨⟨.inr ⟨_, rfl, rfl, .inl ⟨rfl, rfl⟩, fi_new D _⟩, Nat.le_refl _, rfl, rfl⟩, .inr (.inr ⟨rfl, rfl, rfl⟩), fun _ => ⟨rfl, rfl⟩⟩
  · unfold cur at hn
    rw [h2, cdfind1] at hn
    cases hn

theorem dsize (d : PD) : d.size cName = (((cur d).map List.length).getD 0, (cur d).isSome) := by
  unfold PD.size cur
  cases dfind d.names cName <;> rfl
end
end Go.Proofs.Ytmlijnekidihbaa

/-
  What a cache tells, as plain data: its slots and its file.
-/
namespace Go.Proofs.Ytmlijnekidihbaa
open Go.RowKit

/-- The piece of a slot. -/
def heldS (F : List UInt8) (i : Nat) (nm : ByteArray) (pc : Int) : List UInt8 := ((textAt (slotF F i) ((5 + (putT nm.data.toList).length + (putL pc.toNat).length : Nat) : Int)).map (·.1)).getD []

theorem has_held {F : List UInt8} {i : Nat} {nm : ByteArray} {pc : Int} {b : List UInt8} (h : HasC F i nm pc b) : heldS F i nm pc = b := by
  obtain ⟨h1, h2⟩ := h
  obtain ⟨k1, k2, k3, k4, k5⟩ := kept_facts h1
  unfold heldS
  rw [h2]
  obtain ⟨s, hs⟩ : ∃ s, s = 1 :: fixL (sumL (padC (restC nm pc b)) : Int) 4 := ⟨_, rfl⟩
  obtain ⟨z, hz⟩ : ∃ z, z = List.replicate (560 - (restC nm pc b).length) (0 : UInt8) := ⟨_, rfl⟩
  have hl : s.length = 5 := by rw [hs]; simp [fixL_length]
  have e : 1 :: bodyC nm pc b = s ++ putT nm.data.toList ++ putL pc.toNat ++ putT b ++ z := by
    unfold bodyC
    rw [show padC (restC nm pc b) = restC nm pc b ++ z by rw [hz]; rfl, hs]
    unfold restC
    simp [padC]
    rw [hz]
    simp [restC]
  have q3 := textAt_tells (s ++ putT nm.data.toList ++ putL pc.toNat) z b (by omega)
  rw [List.length_append, List.length_append, hl] at q3
  rw [e, q3]
  rfl

def tellL (F : List UInt8) : Nat → List Sl → List (CKey × List UInt8)
  | _, [] => []
  | i, s :: r => if s.kind = 1 then ((s.nm, s.pc), heldS F i s.nm s.pc) :: tellL F (i + 1) r else tellL F (i + 1) r

theorem tellL_cons (F : List UInt8) (i : Nat) (s : Sl) (r : List Sl) : tellL F i (s :: r) = if s.kind = 1 then ((s.nm, s.pc), heldS F i s.nm s.pc) :: tellL F (i + 1) r else tellL F (i + 1) r := rfl

def Uniq (l : List Sl) : Prop := ∀ (i j : Nat) (nm : ByteArray) (pc : Int) (s t : Sl), l[i]? = some s → l[j]? = some t → s.isL nm pc = true → t.isL nm pc = true → i = j

theorem lookC_cons (y : CKey × List UInt8) (T : List (CKey × List UInt8)) (x : CKey) : lookC (y :: T) x = if y.1 = x then some y.2 else lookC T x := by
  unfold lookC
  rw [List.find?_cons]
  by_cases h : y.1 = x
  · simp [h]
  · simp [h]

theorem isL_iff {nm : ByteArray} {pc : Int} {s : Sl} : s.isL nm pc = true ↔ s.kind = 1 ∧ s.nm = nm ∧ s.pc = pc := by
  unfold Sl.isL
  simp only [Bool.and_eq_true, decide_eq_true_eq, and_assoc]

theorem clook_none : ∀ (l : List Sl) (F : List UInt8) (i : Nat) (x : CKey), (∀ s ∈ l, s.isL x.1 x.2 = false) → lookC (tellL F i l) x = none
  | [], _, _, _, _ => rfl
  | s :: r, F, i, x, h => by
    have ih := clook_none r F (i + 1) x fun t ht => h t (by simp [ht])
    unfold tellL
    by_cases hk : s.kind = 1
    · rw [if_pos hk, lookC_cons, if_neg, ih]
      intro e
      have h1 := h s (by simp)
      have e1 : s.nm = x.1 := congrArg Prod.fst e
      have e2 : s.pc = x.2 := congrArg Prod.snd e
      rw [isL_iff.2 ⟨hk, e1, e2⟩] at h1
      cases h1
    · rw [if_neg hk, ih]

theorem look_first : ∀ (l : List Sl) (F : List UInt8) (i j : Nat) (x : CKey) (s : Sl), l[j]? = some s → s.isL x.1 x.2 = true → (∀ j' t, j' < j → l[j']? = some t → t.isL x.1 x.2 = false) → lookC (tellL F i l) x = some (heldS F (i + j) x.1 x.2)
  | [], _, _, _, _, _, h, _, _ => by simp at h
  | t :: r, F, i, 0, x, s, h, hs, _ => by
    simp at h
    subst h
    obtain ⟨h1, h2, h3⟩ := isL_iff.1 hs
    unfold tellL
    rw [if_pos h1, lookC_cons, if_pos (by rw [h2, h3]), h2, h3, Nat.add_zero]
  | t :: r, F, i, j + 1, x, s, h, hs, hf => by
    have ih := look_first r F (i + 1) j x s (by simpa using h) hs fun j' u hj hu => hf (j' + 1) u (by omega) (by simpa using hu)
    rw [show i + (j + 1) = i + 1 + j by omega, ← ih]
    have ht := hf 0 t (by omega) rfl
    rw [tellL_cons F i t r]
    by_cases hk : t.kind = 1
    · rw [if_pos hk, lookC_cons, if_neg]
      intro e
      have e1 : t.nm = x.1 := congrArg Prod.fst e
      have e2 : t.pc = x.2 := congrArg Prod.snd e
      rw [isL_iff.2 ⟨hk, e1, e2⟩] at ht
      cases ht
    · rw [if_neg hk]

theorem look_some {l : List Sl} (hu : Uniq l) (F : List UInt8) {j : Nat} {x : CKey} {s : Sl} (h : l[j]? = some s) (hs : s.isL x.1 x.2 = true) : lookC (tellL F 0 l) x = some (heldS F j x.1 x.2) := by
  have := look_first l F 0 j x s h hs fun j' t hj ht => by
    cases hb : t.isL x.1 x.2 with
    | false => rfl
    | true => have := hu j' j _ _ t s ht h hb hs; omega
  rwa [Nat.zero_add] at this

theorem look_inv {l : List Sl} (hu : Uniq l) {F : List UInt8} {x : CKey} {b : List UInt8} (h : lookC (tellL F 0 l) x = some b) : ∃ (j : Nat) (s : Sl), l[j]? = some s ∧ s.isL x.1 x.2 = true ∧ b = heldS F j x.1 x.2 := by
  by_cases he : ∃ (j : Nat) (s : Sl), l[j]? = some s ∧ s.isL x.1 x.2 = true
  · obtain ⟨j, s, h1, h2⟩ := he
    rw [look_some hu F h1 h2] at h
    exact ⟨j, s, h1, h2, (Option.some.inj h).symm⟩
  · rw [clook_none l F 0 x fun s hs => by
      cases hb : s.isL x.1 x.2 with
      | false => rfl
      | true =>
        obtain ⟨j, hj, e⟩ := List.getElem_of_mem hs
        exact absurd ⟨j, s, by rw [List.getElem?_eq_getElem hj, e], hb⟩ he] at h
    cases h

theorem tell_length (F : List UInt8) : ∀ (l : List Sl) (i : Nat), (tellL F i l).length = fullN l
  | [], _ => rfl
  | s :: r, i => by
    have ih := tell_length F r (i + 1)
    unfold tellL fullN
    by_cases hk : s.kind = 1
    · rw [if_pos hk, List.length_cons, ih, List.filter_cons_of_pos (by simp [hk])]; rfl
    · rw [if_neg hk, ih, List.filter_cons_of_neg (by simp [hk])]; rfl

theorem tell_congr {F F' : List UInt8} : ∀ (l l' : List Sl) (i : Nat), l.length = l'.length → (∀ j s s', l[j]? = some s → l'[j]? = some s' → (s.kind = 1 ↔ s'.kind = 1) ∧ (s.kind = 1 → s'.nm = s.nm ∧ s'.pc = s.pc ∧ slotF F' (i + j) = slotF F (i + j))) → tellL F' i l' = tellL F i l
  | [], [], _, _, _ => rfl
  | [], _ :: _, _, h, _ => by simp at h
  | _ :: _, [], _, h, _ => by simp at h
  | s :: r, s' :: r', i, hl, h => by
    have ih := tell_congr r r' (i + 1) (by simpa using hl) fun j t t' ht ht' => by
      have := h (j + 1) t t' (by simpa using ht) (by simpa using ht')
      rwa [show i + (j + 1) = i + 1 + j by omega] at this
    obtain ⟨h1, h2⟩ := h 0 s s' rfl rfl
    unfold tellL
    by_cases hk : s.kind = 1
    · obtain ⟨h3, h4, h5⟩ := h2 hk
      rw [if_pos hk, if_pos (h1.1 hk), ih, h3, h4]
      rw [Nat.add_zero] at h5
      unfold heldS
      rw [h5]
    · rw [if_neg hk, if_neg (fun e => hk (h1.2 e)), ih]

theorem look_set {l : List Sl} {at_ : Nat} {s' : Sl} {F F' : List UInt8} (hu : Uniq l) (hu' : Uniq (l.set at_ s')) (hlt : at_ < l.length) (hs : ∀ i, i ≠ at_ → slotF F' i = slotF F i) (x : CKey) (hx : s'.isL x.1 x.2 = false) : lookC (tellL F' 0 (l.set at_ s')) x = lookC (tellL F 0 l) x ∨ lookC (tellL F' 0 (l.set at_ s')) x = none := by
  by_cases he : ∃ (j : Nat) (t : Sl), (l.set at_ s')[j]? = some t ∧ t.isL x.1 x.2 = true
  · obtain ⟨j, t, h1, h2⟩ := he
    have hj : j ≠ at_ := by
      rintro rfl
      rw [List.getElem?_set_self hlt] at h1
      cases h1
      rw [hx] at h2; cases h2
    have h3 : l[j]? = some t := by rwa [List.getElem?_set_ne (fun e => hj e.symm)] at h1
    left
    rw [look_some hu' F' h1 h2, look_some hu F h3 h2]
    unfold heldS
    rw [hs j hj]
  · right
    refine clook_none _ _ _ _ fun s hs => ?_
    cases hb : s.isL x.1 x.2 with
    | false => rfl
    | true =>
      obtain ⟨j, hj, e⟩ := List.getElem_of_mem hs
      exact absurd ⟨j, s, by rw [List.getElem?_eq_getElem hj, e], hb⟩ he

/-- How many of that kind. -/
def cntN (k : Nat) (l : List Sl) : Nat := (l.filter fun s => s.kind == k).length
theorem full_cnt (l : List Sl) : fullN l = cntN 1 l := rfl
theorem cnt_set (k : Nat) : ∀ (l : List Sl) (i : Nat) (s s' : Sl), l[i]? = some s → cntN k (l.set i s') + (if s.kind = k then 1 else 0) = cntN k l + if s'.kind = k then 1 else 0
  | [], _, _, _, h => by simp at h
  | t :: r, 0, s, s', h => by
    simp at h
    subst h
    unfold cntN
    rw [List.set_cons_zero]
    by_cases h1 : t.kind = k <;> by_cases h2 : s'.kind = k <;> simp [h1, h2] <;> omega
  | t :: r, i + 1, s, s', h => by
    have ih := cnt_set k r i s s' (by simpa using h)
    unfold cntN at ih ⊢
    rw [List.set_cons_succ]
    by_cases h1 : t.kind = k
    · rw [List.filter_cons_of_pos (by simp [h1]), List.filter_cons_of_pos (by simp [h1]), List.length_cons, List.length_cons]; omega
    · rw [List.filter_cons_of_neg (by simp [h1]), List.filter_cons_of_neg (by simp [h1])]; exact ih

theorem full_all : ∀ (l : List Sl), (∀ s ∈ l, s.kind = 1) → fullN l = l.length
  | [], _ => rfl
  | s :: r, h => by
    have ih := full_all r fun t ht => h t (by simp [ht])
    unfold fullN at ih ⊢
    rw [List.filter_cons_of_pos (by simp [h s (by simp)]), List.length_cons, ih, List.length_cons]

/-- What holds of a cache's slots, and its disk. -/
structure CI (d : PD) (n : Nat) (l : List Sl) : Prop where
  len : l.length = 64
  lim : n ≤ 64
  few : fullN l ≤ n
  uniq : Uniq l
  mat : d.down = false → ∀ i s, l[i]? = some s → s.kind = 1 → ∃ b, HasC (cFile d) i s.nm s.pc b

/-- Nothing stands in the file but what the cache has. -/
structure OkC (d : PD) (l : List Sl) : Prop where
  snd : Sound d
  none2 : ∀ s ∈ l, s.kind ≠ 2
  back : ∀ i nm pc b, HasC (cFile d) i nm pc b → ∃ s, l[i]? = some s ∧ s.isL nm pc = true

def tellD (d : PD) (l : List Sl) : List (CKey × List UInt8) := if d.down then [] else tellL (cFile d) 0 l

section
variable {D : CKey → List UInt8 → Prop} {d : PD} {n : Nat} {l : List Sl}
theorem CI.tells (h : CI d n l) (hd : d.down = false) {i : Nat} {s : Sl} {nm : ByteArray} {pc : Int} (hs : l[i]? = some s) (hl : s.isL nm pc = true) : ∃ b, HasC (cFile d) i nm pc b ∧ lookC (tellD d l) (nm, pc) = some b := by
  obtain ⟨h1, h2, h3⟩ := isL_iff.1 hl
  obtain ⟨b, hb⟩ := h.mat hd i s hs h1
  rw [h2, h3] at hb
  refine ⟨b, hb, ?_⟩
  unfold tellD
  rw [hd]
  simp only [Bool.false_eq_true, if_false]
  rw [look_some h.uniq (cFile d) (x := (nm, pc)) hs hl, has_held hb]
theorem CI.tell_few (h : CI d n l) (hs : DShape D d) : (tellD d l).length ≤ n ∧ ∀ x b, lookC (tellD d l) x = some b → D x b := by
  unfold tellD
  cases hd : d.down with
  | true => exact ⟨Nat.zero_le _, fun x b hx => by cases hx⟩
  | false =>
    simp only [Bool.false_eq_true, if_false]
    refine ⟨by rw [tell_length]; exact h.few, fun x b hx => ?_⟩
    obtain ⟨j, s, h1, h2, rfl⟩ := look_inv h.uniq hx
    obtain ⟨h3, h4, h5⟩ := isL_iff.1 h2
    obtain ⟨b, hb⟩ := h.mat hd j s h1 h3
    rw [h4, h5] at hb
    rw [has_held hb]
    exact (cFile_good hs).2 j x.1 x.2 b hb
end
end Go.Proofs.Ytmlijnekidihbaa

/-
  A cache and its disk in memory: what is stored, what the disk's calls leave.
-/
namespace Go.Proofs.Ytmlijnekidihbaa
open Go.RowKit

def Gq (g : Gh) (q : Nat) (j : Nat) : Prop := g.F j ∨ j = q
/-- What a call of a cache leaves. -/
structure CSt (q : Nat) (g g' : Gh) (w w' : World) : Prop where
  touch : Touch (Gq g q) w w'
  grows : Grows (Gq g q) (Gq g' q) w w'

/-- The cache 'q' on the disk 'p', side by side. -/
structure CS (g : Gh) (w : World) (q p : Nat) (d : PD) (n : Nat) (l : List Sl) (turn : Int) : Prop where
  da : DiskAt g w p d
  ca : CAt w q p n l turn
  out : ¬ g.F q

section
variable {g g' g'' : Gh} {a b c w w' : World} {q p n : Nat} {d d' : PD} {l : List Sl} {turn : Int}
theorem CSt.refl (q : Nat) (g : Gh) (w : World) : CSt q g g w w := ⟨Touch.refl _ _, Grows.refl _ _ _⟩
theorem CSt.trans (h : CSt q g g' a b) (k : CSt q g' g'' b c) : CSt q g g'' a c := ⟨Touch.trans h.touch k.touch h.grows, Grows.trans h.grows k.grows h.touch.size k.touch.size⟩
theorem CSt.below (h : Below w.heap.size w w') : CSt q g g w w' := ⟨Touch.of_below h, Grows.refl _ _ _⟩
theorem CSt.step (h : Step g g' w w') (hd : DiskAt g' w' p d') : CSt q g g' w w' := by
  refine ⟨Touch.mono h.touch fun k hk _ => .inl hk, fun k hk => ?_⟩
  rcases hk with hk | rfl
  · rcases h.new k hk with h1 | h1
    · exact .inl (.inl h1)
    · exact .inr ⟨h1, hd.olt k hk⟩
  · exact .inl (.inr rfl)
theorem CSt.store (o : Nat) (v : Value) : CSt q g g w (w.setCell ⟨q, o, none⟩ v) := ⟨(Kept.refl _ w).setCell (fun h => h.2 (.inr rfl)) v, Grows.refl _ _ _⟩

theorem CS.lt (h : CS g w q p d n l turn) : q < w.heap.size := h.ca.lt
theorem CS.below (h : CS g w q p d n l turn) (hb : Below w.heap.size w w') : CS g w' q p d n l turn := ⟨h.da.below hb, h.ca.below hb h.lt, h.out⟩
theorem CS.step (h : CS g w q p d n l turn) (hs : Step g g' w w') (hd : DiskAt g' w' p d') : CS g' w' q p d' n l turn :=
  ⟨hd, h.ca.kept hs.touch ⟨h.lt, h.out⟩, fun hk => by
    rcases hs.new q hk with h1 | h1
    · exact h.out h1
    · have := h.lt; omega⟩
theorem CS.disk_store (h : CS g w q p d n l turn) (o : Nat) (v : Value) : DiskAt g (w.setCell ⟨q, o, none⟩ v) p d :=
  h.da.kept (R := g.F) ((Kept.refl _ w).setCell h.out v) fun _ h => h

/-- One cell of a slot is stored. -/
theorem CAt.set1 (h : CAt w q p n l turn) {i j : Nat} {s s' : Sl} {v : Value} (hs : l[i]? = some s) (hj : j < 4) (e : slC s' = (slC s).set j v) (hk : s'.kind ≤ 2) : CAt (w.setCell ⟨q, 2 + i * 4 + j, none⟩ v) q p n (l.set i s') turn := by
  refine ⟨?_, by rw [List.length_set]; exact h.len, h.ok, fun t ht => ?_⟩
  · rw [blk_set h.blk]
    congr 2
    have hf : slCells (l.set i s') = (slCells l).set (i * 4 + j) v := flat_set slC 4 (fun _ => rfl) l i j s s' v hj hs e
    have hi := (List.getElem?_eq_some_iff.1 hs).1
    have hl := slCells_length l
    unfold cCells
    rw [hf, show 2 + i * 4 + j = (i * 4 + j) + 1 + 1 by omega, List.setIfInBounds_toArray, List.set_cons_succ, List.set_cons_succ, List.set_append_left _ _ (by omega)]
  · rcases List.mem_or_eq_of_mem_set ht with h1 | rfl
    · exact h.kinds t h1
    · exact hk
theorem CAt.set_turn (h : CAt w q p n l turn) (t : Int) : CAt (w.setCell ⟨q, 258, none⟩ (.int .i64 t)) q p n l t := by
  refine ⟨?_, h.len, h.ok, h.kinds⟩
  rw [blk_set h.blk]
  congr 2
  have hl := slCells_length l
  have := h.len
  unfold cCells
  rw [show 258 = 256 + 1 + 1 by omega, List.setIfInBounds_toArray, List.set_cons_succ, List.set_cons_succ, List.set_append_right _ _ (by omega), hl, this]
  rfl
/-- A slot is stored whole. -/
theorem CAt.set4 (h : CAt w q p n l turn) {i : Nat} {s s' : Sl} (hs : l[i]? = some s) (hk : s'.kind ≤ 2) : CAt ((((w.setCell ⟨q, 2 + i * 4, none⟩ (.int .i64 (s'.kind : Int))).setCell ⟨q, 2 + i * 4 + 1, none⟩ (.string s'.nm)).setCell ⟨q, 2 + i * 4 + 2, none⟩ (.int .i64 s'.pc)).setCell ⟨q, 2 + i * 4 + 3, none⟩ (.int .i64 s'.last)) q p n (l.set i s') turn := by
  have hi := (List.getElem?_eq_some_iff.1 hs).1
  have h1 := h.set1 (j := 0) (s' := ⟨s'.kind, s.nm, s.pc, s.last⟩) (v := .int .i64 (s'.kind : Int)) hs (by decide) rfl hk
  have h2 := h1.set1 (i := i) (j := 1) (s := ⟨s'.kind, s.nm, s.pc, s.last⟩) (s' := ⟨s'.kind, s'.nm, s.pc, s.last⟩) (v := .string s'.nm) (List.getElem?_set_self hi) (by decide) rfl hk
  rw [List.set_set] at h2
  have h3 := h2.set1 (i := i) (j := 2) (s := ⟨s'.kind, s'.nm, s.pc, s.last⟩) (s' := ⟨s'.kind, s'.nm, s'.pc, s.last⟩) (v := .int .i64 s'.pc) (List.getElem?_set_self hi) (by decide) rfl hk
  rw [List.set_set] at h3
  have h4 := h3.set1 (i := i) (j := 3) (s := ⟨s'.kind, s'.nm, s'.pc, s.last⟩) (s' := s') (v := .int .i64 s'.last) (List.getElem?_set_self hi) (by decide) rfl hk
  rw [List.set_set] at h4
  exact h4
theorem CSt.store4 (i : Nat) (v0 v1 v2 v3 : Value) : CSt q g g w ((((w.setCell ⟨q, 2 + i * 4, none⟩ v0).setCell ⟨q, 2 + i * 4 + 1, none⟩ v1).setCell ⟨q, 2 + i * 4 + 2, none⟩ v2).setCell ⟨q, 2 + i * 4 + 3, none⟩ v3) :=
  (((CSt.store _ _).trans (CSt.store _ _)).trans (CSt.store _ _)).trans (CSt.store _ _)
theorem CS.set4 (h : CS g w q p d n l turn) {i : Nat} {s s' : Sl} (hs : l[i]? = some s) (hk : s'.kind ≤ 2) : CS g ((((w.setCell ⟨q, 2 + i * 4, none⟩ (.int .i64 (s'.kind : Int))).setCell ⟨q, 2 + i * 4 + 1, none⟩ (.string s'.nm)).setCell ⟨q, 2 + i * 4 + 2, none⟩ (.int .i64 s'.pc)).setCell ⟨q, 2 + i * 4 + 3, none⟩ (.int .i64 s'.last)) q p d n (l.set i s') turn :=
  ⟨h.da.kept (R := g.F) (((((Kept.refl _ w).setCell h.out _).setCell h.out _).setCell h.out _).setCell h.out _) fun _ h => h, h.ca.set4 hs hk, h.out⟩
theorem CS.set1 (h : CS g w q p d n l turn) {i j : Nat} {s s' : Sl} {v : Value} (hs : l[i]? = some s) (hj : j < 4) (e : slC s' = (slC s).set j v) (hk : s'.kind ≤ 2) : CS g (w.setCell ⟨q, 2 + i * 4 + j, none⟩ v) q p d n (l.set i s') turn :=
  ⟨h.disk_store _ _, h.ca.set1 hs hj e hk, h.out⟩
theorem CS.set_turn (h : CS g w q p d n l turn) (t : Int) : CS g (w.setCell ⟨q, 258, none⟩ (.int .i64 t)) q p d n l t := ⟨h.disk_store _ _, h.ca.set_turn t, h.out⟩
end
end Go.Proofs.Ytmlijnekidihbaa

/-
  What ready does to the slots and the disk, as plain data.
-/
namespace Go.Proofs.Ytmlijnekidihbaa
open Go.RowKit

/-- The first 'k' slots are put in order. -/
structure RR (D : CKey → List UInt8 → Prop) (d0 : PD) (l0 : List Sl) (n k E : Nat) (d : PD) (l : List Sl) : Prop where
  sh : DShape D d
  ci : CI d n l
  rest : ∀ i, k ≤ i → l[i]? = l0[i]?
  clear : ∀ (i : Nat) (s : Sl), i < k → l[i]? = some s → s.kind ≠ 2
  pot : d.calls + cntN 2 l ≤ d0.calls + cntN 2 l0 + 1
  room : d.room = d0.room
  crash : d.crash = d0.crash
  tell : d.down = true ∨ (d.down = false ∧ d0.down = false ∧ tellD d l = tellD d0 l0)
  ends : d.down = false → ∃ F, cur d = some F ∧ E * 565 ≤ F.length ∧ F.length < E * 565 + 565
  okc : OkC d0 l0 → OkC d l

/-- .. all of them, or an error was told. -/
structure RF (D : CKey → List UInt8 → Prop) (d0 : PD) (l0 : List Sl) (n : Nat) (b : Bool) (d : PD) (l : List Sl) : Prop where
  sh : DShape D d
  ci : CI d n l
  pot : d.calls + cntN 2 l ≤ d0.calls + cntN 2 l0 + 2
  room : d.room = d0.room
  crash : d.crash = d0.crash
  tell : d.down = true ∨ (d.down = false ∧ d0.down = false ∧ tellD d l = tellD d0 l0)
  clear : b = true → ∀ s ∈ l, s.kind ≠ 2
  file : b = true → d.down = false → ∃ F, cur d = some F
  okc : OkC d0 l0 → OkC d l ∧ b = true

theorem cFile_up {d : PD} {F : List UInt8} (hd : d.down = false) (hc : cur d = some F) : cFile d = F := by rw [cFile_cur, hd, hc]; rfl
theorem cFile_none {d : PD} (hc : cur d = none) : cFile d = [] := by rw [cFile_cur, hc]; cases d.down <;> rfl
theorem no_has_nil (i : Nat) (nm : ByteArray) (pc : Int) (b : List UInt8) : ¬ HasC [] i nm pc b := fun h => by have := has_head h; simp at this

section
variable {D : CKey → List UInt8 → Prop} {d0 d : PD} {l0 l : List Sl} {n k E : Nat}
theorem tellD_up {d : PD} (hd : d.down = false) (l : List Sl) : tellD d l = tellL (cFile d) 0 l := by unfold tellD; rw [hd]; rfl

theorem rr_some (hsh : DShape D d0) (hi : CI d0 n l0) {F : List UInt8} (hc : cur d0 = some F) : RR D d0 l0 n 0 (F.length / 565) d0 l0 := by
  refine ⟨hsh, hi, fun _ _ => rfl, fun i s h => absurd h (Nat.not_lt_zero _), by omega, rfl, rfl, ?_, fun _ => ⟨F, hc, by omega, by omega⟩, id⟩
  cases hd : d0.down with
  | true => exact .inl rfl
  | false => exact .inr ⟨rfl, rfl, rfl⟩

theorem rr_none (hsh : DShape D d0) (hi : CI d0 n l0) (hc : cur d0 = none) : RR D d0 l0 n 0 0 (d0.make cName).2 l0 := by
  obtain ⟨h1, h2, h3⟩ := dmake hsh hc
  have hmat : d0.down = false → ∀ (i : Nat) s, l0[i]? = some s → s.kind ≠ 1 := fun hd i s hs hk => by
    obtain ⟨b, hb⟩ := hi.mat hd i s hs hk
    rw [cFile_none hc] at hb
    exact no_has_nil _ _ _ _ hb
  have hci : ∀ d', (d'.down = false → d0.down = false) → CI d' n l0 := fun d' hd => ⟨hi.len, hi.lim, hi.few, hi.uniq, fun h i s hs hk => absurd hk (hmat (hd h) i s hs)⟩
  have hok : OkC d0 l0 → OkC (d0.make cName).2 l0 := fun ho => by
    obtain ⟨h4, h5⟩ := h3 ho.snd
    refine ⟨⟨h4, by rw [h1.crash]; exact ho.snd.2.1, by rw [h1.room]; exact ho.snd.2.2⟩, ho.none2, fun i nm pc b hh => ?_⟩
    rw [cFile_up h4 h5] at hh
    exact absurd hh (no_has_nil _ _ _ _)
  have hpot := h1.calls
  rcases h2 with ⟨h4, h5⟩ | h4 | ⟨h4, h5, h6⟩
  · refine ⟨h1.sh, hci _ (fun h => by rw [h4] at h; exact h), fun _ _ => rfl, fun i s h => absurd h (Nat.not_lt_zero _), by omega, h1.room, h1.crash, .inl (by rw [h4, h5]), fun h => (by rw [h4, h5] at h; cases h), hok⟩
  · exact ⟨h1.sh, hci _ (fun h => (by rw [h4] at h; cases h)), fun _ _ => rfl, fun i s h => absurd h (Nat.not_lt_zero _), by omega, h1.room, h1.crash, .inl h4, fun h => (by rw [h4] at h; cases h), hok⟩
  · refine ⟨h1.sh, hci _ (fun _ => h4), fun _ _ => rfl, fun i s h => absurd h (Nat.not_lt_zero _), by omega, h1.room, h1.crash, .inr ⟨h5, h4, ?_⟩, fun _ => ⟨[], h6, by simp, by simp⟩, hok⟩
    rw [tellD_up h5, tellD_up h4, cFile_up h5 h6, cFile_none hc]

theorem set_sub {l : List Sl} {k : Nat} (hk : k < l.length) {s' : Sl} (hs' : s'.kind ≠ 1) {i : Nat} {s : Sl} (h : (l.set k s')[i]? = some s) (h1 : s.kind = 1) : i ≠ k ∧ l[i]? = some s := by
  by_cases e : i = k
  · subst e
    rw [List.getElem?_set_self hk] at h
    cases h
    exact absurd h1 hs'
  · rw [List.getElem?_set_ne (fun e' => e e'.symm)] at h
    exact ⟨e, h⟩

/-- A slot that is not full, or is no more: set to nothing. -/
theorem ci_set {d' : PD} (hi : CI d n l) (hk : k < 64) {s' : Sl} (hs' : s'.kind ≠ 1) (hdn : d'.down = false → d.down = false) (hF : d'.down = false → ∀ i, i ≠ k → slotF (cFile d') i = slotF (cFile d) i) : CI d' n (l.set k s') := by
  have hl := hi.len
  obtain ⟨s, hs⟩ : ∃ s, l[k]? = some s := ⟨_, List.getElem?_eq_getElem (by omega)⟩
  refine ⟨by rw [List.length_set]; exact hl, hi.lim, ?_, ?_, fun hd i t ht h1 => ?_⟩
  · have := cnt_set 1 l k s s' hs
    have h2 := hi.few
    rw [full_cnt] at h2 ⊢
    rw [if_neg hs'] at this
    omega
  · intro i j nm pc s1 t1 h1 h2 h3 h4
    exact hi.uniq i j nm pc s1 t1 (set_sub (by omega) hs' h1 (isL_iff.1 h3).1).2 (set_sub (by omega) hs' h2 (isL_iff.1 h4).1).2 h3 h4
  · obtain ⟨e, h2⟩ := set_sub (by omega) hs' ht h1
    obtain ⟨b, hb⟩ := hi.mat (hdn hd) i t h2 h1
    exact ⟨b, hb.1, by rw [hF hd i e]; exact hb.2⟩

theorem tell_set {d' : PD} (hd : d.down = false) (hd' : d'.down = false) (hk : k < l.length) {s s' : Sl} (hs : l[k]? = some s) (h1 : s.kind ≠ 1) (h2 : s'.kind ≠ 1) (hF : ∀ i, i ≠ k → slotF (cFile d') i = slotF (cFile d) i) : tellD d' (l.set k s') = tellD d l := by
  rw [tellD_up hd, tellD_up hd']
  refine tell_congr l (l.set k s') 0 (by rw [List.length_set]) fun j t t' ht ht' => ?_
  by_cases e : j = k
  · subst e
    rw [List.getElem?_set_self hk] at ht'
    cases ht'
    rw [hs] at ht
    cases ht
    exact ⟨⟨fun e => absurd e h1, fun e => absurd e h2⟩, fun e => absurd e h1⟩
  · rw [List.getElem?_set_ne (fun e' => e e'.symm), ht] at ht'
    cases ht'
    exact ⟨Iff.rfl, fun _ => ⟨rfl, rfl, hF _ (by omega)⟩⟩

theorem RR.skip (h : RR D d0 l0 n k E d l) {s : Sl} (hs : l[k]? = some s) (h2 : s.kind ≠ 2) : RR D d0 l0 n (k + 1) E d l :=
  ⟨h.sh, h.ci, fun i hi => h.rest i (by omega), fun i t hi ht => by
    rcases Nat.lt_or_ge i k with hlt | hge
    · exact h.clear i t hlt ht
    · obtain rfl : i = k := by omega
      rw [hs] at ht; cases ht; exact h2, h.pot, h.room, h.crash, h.tell, h.ends, h.okc⟩

theorem RR.zero (h : RR D d0 l0 n k E d l) (hk : k < 64) (hE : E ≤ k) : RR D d0 l0 n (k + 1) E d (l.set k Sl.none_) := by
  have hl := h.ci.len
  obtain ⟨s, hs⟩ : ∃ s, l[k]? = some s := ⟨_, List.getElem?_eq_getElem (by omega)⟩
  have hno : d.down = false → ∀ nm pc b, ¬ HasC (cFile d) k nm pc b := fun hd nm pc b hh => by
    obtain ⟨F, hF, h1, h2⟩ := h.ends hd
    rw [cFile_up hd hF] at hh
    have := has_len hh
    omega
  have hk1 : d.down = false → s.kind ≠ 1 := fun hd e => by
    obtain ⟨b, hb⟩ := h.ci.mat hd k s hs e
    exact hno hd _ _ _ hb
  have hz : Sl.none_.kind ≠ 1 := by simp [Sl.none_]
  refine ⟨h.sh, ci_set h.ci hk hz (fun h => h) (fun _ _ _ => rfl), fun i hi => ?_, fun i t hi ht => ?_, ?_, h.room, h.crash, ?_, h.ends, fun ho => ?_⟩
  · rw [List.getElem?_set_ne (by omega)]
    exact h.rest i (by omega)
  · by_cases e : i = k
    · subst e
      rw [List.getElem?_set_self (by omega)] at ht
      cases ht; simp [Sl.none_]
    · rw [List.getElem?_set_ne (fun e' => e e'.symm)] at ht
      exact h.clear i t (by omega) ht
  · have := cnt_set 2 l k s Sl.none_ hs
    have h2 := h.pot
    simp [Sl.none_] at this
    have h3 : cntN 2 (l.set k Sl.none_) ≤ cntN 2 l := by unfold Sl.none_; omega
    omega
  · rcases h.tell with h1 | ⟨h1, h2, h3⟩
    · exact .inl h1
    · exact .inr ⟨h1, h2, by rw [tell_set h1 h1 (by omega) hs (hk1 h1) hz (fun _ _ => rfl), h3]⟩
  · have h1 := h.okc ho
    refine ⟨h1.snd, fun t ht => ?_, fun i nm pc b hh => ?_⟩
    · rcases List.mem_or_eq_of_mem_set ht with h2 | rfl
      · exact h1.none2 t h2
      · simp [Sl.none_]
    · obtain ⟨t, ht, h2⟩ := h1.back i nm pc b hh
      have hik : i ≠ k := fun e => by subst e; exact hno h1.snd.1 _ _ _ hh
      exact ⟨t, by rw [List.getElem?_set_ne (fun e' => hik e'.symm)]; exact ht, h2⟩

/-- The mark's write. -/
theorem RR.mark_hg (h : RR D d0 l0 n k E d l) (hk : k < 64) : ∀ F, cur d = some F → k * 565 ≤ F.length → ∀ j, GoodF D (wr F (k * 565) ([(0 : UInt8)].take j)) := fun _ hF ha j => good_mark0 (cur_good h.sh hF) hk ha j

theorem RR.fail (h : RR D d0 l0 n k E d l) {s : Sl} (hs : l[k]? = some s) (h2 : s.kind = 2) {d' : PD} (hd : Did D d d') (hx : d' = d ∨ d'.down = true) : RF D d0 l0 n false d' l := by
  have hno : ¬ OkC d0 l0 := fun ho => (h.okc ho).none2 s (List.mem_of_getElem? hs) h2
  have hp := h.pot
  have hc := hd.calls
  refine ⟨hd.sh, ?_, by omega, by rw [hd.room, h.room], by rw [hd.crash, h.crash], ?_, fun e => (by cases e), fun e => (by cases e), fun ho => absurd ho hno⟩
  · rcases hx with rfl | hx
    · exact h.ci
    · exact ⟨h.ci.len, h.ci.lim, h.ci.few, h.ci.uniq, fun e => by rw [hx] at e; cases e⟩
  · rcases hx with rfl | hx
    · exact h.tell
    · exact .inl hx

set_option maxRecDepth 100000 in
theorem RR.mark (h : RR D d0 l0 n k E d l) (hk : k < 64) (hE : k < E) {s : Sl} (hs : l[k]? = some s) (h2 : s.kind = 2) {d' : PD} (hd : Did D d d') (hup : d.down = false) (hup' : d'.down = false) {F : List UInt8} (hF : cur d = some F) (ha : k * 565 ≤ F.length) (hF' : cur d' = some (wr F (k * 565) [0])) : RR D d0 l0 n (k + 1) E d' (l.set k Sl.none_) := by
  have hl := h.ci.len
  have hno : ¬ OkC d0 l0 := fun ho => (h.okc ho).none2 s (List.mem_of_getElem? hs) h2
  have hz : Sl.none_.kind ≠ 1 := by simp [Sl.none_]
  have hsl : ∀ i, i ≠ k → slotF (cFile d') i = slotF (cFile d) i := fun i hi => by
    rw [cFile_up hup hF, cFile_up hup' hF']
    exact slot_other (at_ := k) ha (Nat.le_refl _) (by rw [List.length_singleton]; omega) hi
  refine ⟨hd.sh, ci_set h.ci hk hz (fun _ => hup) (fun _ => hsl), fun i hi => ?_, fun i t hi ht => ?_, ?_, by rw [hd.room, h.room], by rw [hd.crash, h.crash], ?_, fun _ => ?_, fun ho => absurd ho hno⟩
  · rw [List.getElem?_set_ne (by omega)]
    exact h.rest i (by omega)
  · by_cases e : i = k
    · subst e
      rw [List.getElem?_set_self (by omega)] at ht
      cases ht; simp [Sl.none_]
    · rw [List.getElem?_set_ne (fun e' => e e'.symm)] at ht
      exact h.clear i t (by omega) ht
  · have := cnt_set 2 l k s Sl.none_ hs
    have h3 := h.pot
    have h4 := hd.calls
    rw [if_pos h2, if_neg (by simp [Sl.none_])] at this
    omega
  · rcases h.tell with h1 | ⟨h1, h3, h4⟩
    · rw [hup] at h1; cases h1
    · exact .inr ⟨hup', h3, by rw [tell_set h1 hup' (by omega) hs (by omega) hz hsl, h4]⟩
  · obtain ⟨F1, hF1, h3, h4⟩ := h.ends hup
    rw [hF] at hF1
    cases hF1
    have hle : (wr F (k * 565) [0]).length = max F.length (k * 565 + 1) := wr_length _ _ _ ha
    exact ⟨_, hF', by omega, by omega⟩

theorem RR.done (h : RR D d0 l0 n 64 E d l) : RF D d0 l0 n true d l := by
  have hp := h.pot
  refine ⟨h.sh, h.ci, by omega, h.room, h.crash, h.tell, fun _ s hs => ?_, fun _ hd => ?_, fun ho => ⟨h.okc ho, rfl⟩⟩
  · obtain ⟨i, hi, e⟩ := List.getElem_of_mem hs
    have := h.ci.len
    exact h.clear i s (by omega) (by rw [List.getElem?_eq_getElem hi, e])
  · obtain ⟨F, hF, _⟩ := h.ends hd
    exact ⟨F, hF⟩
end
end Go.Proofs.Ytmlijnekidihbaa

/-
  What Put does to the slots and the disk, as plain data.
-/
namespace Go.Proofs.Ytmlijnekidihbaa
open Go.RowKit

abbrev staleS : Sl := ⟨2, ⟨#[]⟩, 0, 0⟩

/-- What a Put that may be kept leaves. -/
structure PE (D : CKey → List UInt8 → Prop) (d0 : PD) (l0 : List Sl) (n : Nat) (nm : ByteArray) (pc : Int) (b : List UInt8) (d : PD) (l : List Sl) : Prop where
  sh : DShape D d
  ci : CI d n l
  pot : d.calls + cntN 2 l ≤ d0.calls + cntN 2 l0 + 8
  room : d.room = d0.room
  crash : d.crash = d0.crash
  len : (tellD d l).length ≤ (tellD d0 l0).length + 1
  oth : ∀ y, y ≠ (nm, pc) → lookC (tellD d l) y = lookC (tellD d0 l0) y ∨ lookC (tellD d l) y = none
  own : lookC (tellD d l) (nm, pc) = lookC (tellD d0 l0) (nm, pc) ∨ lookC (tellD d l) (nm, pc) = none ∨ lookC (tellD d l) (nm, pc) = some b
  okc : OkC d0 l0 → OkC d l ∧ lookC (tellD d l) (nm, pc) = some b

/-- The slot for a piece. -/
structure PL (d : PD) (l : List Sl) (n : Nat) (nm : ByteArray) (pc : Int) (m : Nat) : Prop where
  m64 : m < 64
  few : fullN (l.set m staleS) < n
  no : ∀ t ∈ l.set m staleS, t.isL nm pc = false
  ends : d.down = false → ∀ F, cur d = some F → m * 565 ≤ F.length

theorem tellD_down {d : PD} (hd : d.down = true) (l : List Sl) : tellD d l = [] := by unfold tellD; rw [hd]; rfl

section
variable {D : CKey → List UInt8 → Prop} {d0 d1 d : PD} {l0 l1 l : List Sl} {n m : Nat} {nm : ByteArray} {pc : Int} {b : List UInt8}
theorem fullN_stale {s : Sl} (hs : l1[m]? = some s) : fullN (l1.set m staleS) + (if s.kind = 1 then 1 else 0) = fullN l1 := by
  have := cnt_set 1 l1 m s staleS hs
  rw [full_cnt, full_cnt]
  simpa using this

theorem mem_stale {t : Sl} (h : t ∈ l1.set m staleS) : t = staleS ∨ ∃ i, i ≠ m ∧ l1[i]? = some t := by
  obtain ⟨i, hi, e⟩ := List.getElem_of_mem h
  by_cases e' : i = m
  · subst e'
    rw [List.getElem_set_self] at e
    exact .inl e.symm
  · refine .inr ⟨i, e', ?_⟩
    have : (l1.set m staleS)[i]? = some t := by rw [List.getElem?_eq_getElem hi, e]
    rwa [List.getElem?_set_ne (fun e'' => e' e''.symm)] at this

set_option maxRecDepth 100000 in
theorem place_ok (h : RF D d0 l0 n true d1 l1) (hk : ∀ s ∈ l1, s.kind ≤ 2) (hn : 0 < n) {r : Int} (hp : PlaceL n l1 nm pc r) : ∃ m : Nat, r = (m : Int) ∧ PL d1 l1 n nm pc m := by
  have hl := h.ci.len
  have hlim := h.ci.lim
  have hfew := h.ci.few
  have h2 := h.clear rfl
  have hfull : d1.down = false → ∀ F, cur d1 = some F → ∀ i s, l1[i]? = some s → s.kind = 1 → i * 565 + 565 ≤ F.length := fun hd F hF i s hs h1 => by
    obtain ⟨b, hb⟩ := h.ci.mat hd i s hs h1
    rw [cFile_up hd hF] at hb
    exact has_len hb
  rcases hp with ⟨m, s, hs, hm, rfl, hL⟩ | ⟨hno, hlt, hr⟩ | ⟨hno, hge, hr⟩
  · obtain ⟨k1, k2, k3⟩ := isL_iff.1 hL
    refine ⟨m, rfl, hm, ?_, fun t ht => ?_, fun hd F hF => by have := hfull hd F hF m s hs k1; omega⟩
    · have := fullN_stale hs
      rw [if_pos k1] at this
      omega
    · rcases mem_stale ht with rfl | ⟨i, hi, ht'⟩
      · simp [Sl.isL]
      · cases hb : t.isL nm pc with
        | false => rfl
        | true => exact absurd (h.ci.uniq i m nm pc t s ht' hs hb hL) hi
  · rcases hr with ⟨_, hr⟩ | ⟨m, s, hs, hm, rfl, hE, hf⟩
    · exfalso
      have : fullN l1 = l1.length := full_all l1 fun s hs => by
        have a1 := hr s hs
        have a2 := h2 s hs
        have a3 := hk s hs
        unfold Sl.isE at a1
        simp at a1
        omega
      omega
    · have k0 : s.kind = 0 := by unfold Sl.isE at hE; simpa using hE
      refine ⟨m, rfl, hm, ?_, fun t ht => ?_, fun hd F hF => ?_⟩
      · have := fullN_stale hs
        rw [if_neg (by omega)] at this
        omega
      · rcases mem_stale ht with rfl | ⟨i, hi, ht'⟩
        · simp [Sl.isL]
        · exact hno t (List.mem_of_getElem? ht')
      · by_cases hm0 : m = 0
        · subst hm0; omega
        · obtain ⟨t, ht⟩ : ∃ t, l1[m - 1]? = some t := ⟨_, List.getElem?_eq_getElem (by omega)⟩
          have a1 := hf (m - 1) t (by omega) ht
          have a2 := h2 t (List.mem_of_getElem? ht)
          have a3 := hk t (List.mem_of_getElem? ht)
          unfold Sl.isE at a1
          simp at a1
          have := hfull hd F hF (m - 1) t ht (by omega)
          omega
  · rcases hr with ⟨_, hr⟩ | ⟨m, s, hs, hm, rfl, hk1⟩
    · exfalso
      have : fullN l1 = 0 := by
        unfold fullN
        rw [List.filter_eq_nil_iff.2 fun s hs => by simpa using hr s hs]
        rfl
      omega
    · refine ⟨m, rfl, hm, ?_, fun t ht => ?_, fun hd F hF => by have := hfull hd F hF m s hs hk1; omega⟩
      · have := fullN_stale hs
        rw [if_pos hk1] at this
        omega
      · rcases mem_stale ht with rfl | ⟨i, hi, ht'⟩
        · simp [Sl.isL]
        · exact hno t (List.mem_of_getElem? ht')

/-- The disk is down, whatever was done. -/
theorem pe_down (hsh : DShape D d) (hci : CI d n l) (hp : d.calls + cntN 2 l ≤ d0.calls + cntN 2 l0 + 8) (hr : d.room = d0.room) (hc : d.crash = d0.crash) (hd : d.down = true) (hno : ¬ OkC d0 l0) : PE D d0 l0 n nm pc b d l := by
  have e := tellD_down hd l
  exact ⟨hsh, hci, hp, hr, hc, by rw [e]; exact Nat.zero_le _, fun y _ => .inr (by rw [e]; rfl), .inr (.inl (by rw [e]; rfl)), fun ho => absurd ho hno⟩

/-- What was told is told. -/
theorem pe_same (hsh : DShape D d) (hci : CI d n l) (hp : d.calls + cntN 2 l ≤ d0.calls + cntN 2 l0 + 8) (hr : d.room = d0.room) (hc : d.crash = d0.crash) (ht : tellD d l = tellD d0 l0) (hno : ¬ OkC d0 l0) : PE D d0 l0 n nm pc b d l :=
  ⟨hsh, hci, hp, hr, hc, by rw [ht]; exact Nat.le_succ _, fun y _ => .inl (by rw [ht]), .inl (by rw [ht]), fun ho => absurd ho hno⟩

theorem ci_down (hi : CI d1 n l1) (hd : d.down = true) : CI d n l1 := ⟨hi.len, hi.lim, hi.few, hi.uniq, fun e => by rw [hd] at e; cases e⟩

theorem pe_ready {bb : Bool} (h : RF D d0 l0 n bb d l) (hno : ¬ OkC d0 l0) : PE D d0 l0 n nm pc b d l := by
  have hp := h.pot
  rcases h.tell with hd | ⟨_, _, ht⟩
  · exact pe_down h.sh h.ci (by omega) h.room h.crash hd hno
  · exact pe_same h.sh h.ci (by omega) h.room h.crash ht hno

/-- One slot is gone. -/
theorem pe_part (h : RF D d0 l0 n true d1 l1) (hpl : PL d1 l1 n nm pc m) (hsh : DShape D d) (hcl : d.calls ≤ d1.calls + 3) (hr : d.room = d1.room) (hc : d.crash = d1.crash) (hx : d.down = true ∨ (d1.down = false ∧ ∀ i, i ≠ m → slotF (cFile d) i = slotF (cFile d1) i)) (hno : ¬ OkC d0 l0) : PE D d0 l0 n nm pc b d (l1.set m staleS) := by
  have hl := h.ci.len
  have hm := hpl.m64
  have hp := h.pot
  obtain ⟨s, hs⟩ : ∃ s, l1[m]? = some s := ⟨_, List.getElem?_eq_getElem (by omega)⟩
  have hcnt := cnt_set 2 l1 m s staleS hs
  have hci : CI d n (l1.set m staleS) := by
    rcases hx with hx | ⟨hd1, hx⟩
    · exact ci_set (d := d1) h.ci hm (by simp) (fun e => by rw [hx] at e; cases e) (fun e => by rw [hx] at e; cases e)
    · exact ci_set (d := d1) h.ci hm (by simp) (fun _ => hd1) (fun _ => hx)
  have hpot : d.calls + cntN 2 (l1.set m staleS) ≤ d0.calls + cntN 2 l0 + 8 := by
    rw [if_pos (show staleS.kind = 2 from rfl)] at hcnt
    omega
  by_cases hd : d.down = true
  · exact pe_down hsh hci hpot (by rw [hr, h.room]) (by rw [hc, h.crash]) hd hno
  · have hd' : d.down = false := by simpa using hd
    rcases hx with hx | ⟨hd1, hx⟩
    · exact absurd hx hd
    · have ht : tellD d1 l1 = tellD d0 l0 := by
        rcases h.tell with e | ⟨_, _, e⟩
        · rw [hd1] at e; cases e
        · exact e
      have hlk : ∀ y, lookC (tellD d (l1.set m staleS)) y = lookC (tellD d0 l0) y ∨ lookC (tellD d (l1.set m staleS)) y = none := fun y => by
        rw [← ht, tellD_up hd', tellD_up hd1]
        exact look_set h.ci.uniq hci.uniq (by omega) hx y (by simp [Sl.isL])
      refine ⟨hsh, hci, hpot, by rw [hr, h.room], by rw [hc, h.crash], ?_, fun y _ => hlk y, (hlk _).elim .inl fun e => .inr (.inl e), fun ho => absurd ho hno⟩
      rw [← ht, tellD_up hd', tellD_up hd1, tell_length, tell_length]
      have := fullN_stale hs
      omega

/-- The piece is there. -/
theorem pe_full (h : RF D d0 l0 n true d1 l1) (hpl : PL d1 l1 n nm pc m) (hsh : DShape D d) (hcl : d.calls ≤ d1.calls + 4) (hr : d.room = d1.room) (hc : d.crash = d1.crash) {t : Int}
    (hx : d.down = true ∨ (d1.down = false ∧ HasC (cFile d) m nm pc b ∧ ∀ i, i ≠ m → slotF (cFile d) i = slotF (cFile d1) i)) (hok : OkC d0 l0 → d.down = false) : PE D d0 l0 n nm pc b d (l1.set m ⟨1, nm, pc, t⟩) := by
  have hl := h.ci.len
  have hm := hpl.m64
  have hp := h.pot
  obtain ⟨s, hs⟩ : ∃ s, l1[m]? = some s := ⟨_, List.getElem?_eq_getElem (by omega)⟩
  have hcnt := cnt_set 2 l1 m s ⟨1, nm, pc, t⟩ hs
  have hcn1 := cnt_set 1 l1 m s ⟨1, nm, pc, t⟩ hs
  have hst := fullN_stale hs
  have hfew := hpl.few
  have hget : ∀ {i : Nat} {u : Sl}, (l1.set m ⟨1, nm, pc, t⟩)[i]? = some u → (i = m ∧ u = ⟨1, nm, pc, t⟩) ∨ (i ≠ m ∧ l1[i]? = some u) := by
    intro i u hi
    by_cases e : i = m
    · subst e
      rw [List.getElem?_set_self (by omega)] at hi
      cases hi; exact .inl ⟨rfl, rfl⟩
    · rw [List.getElem?_set_ne (fun e' => e e'.symm)] at hi
      exact .inr ⟨e, hi⟩
  have hno : ∀ i u, i ≠ m → l1[i]? = some u → u.isL nm pc = false := fun i u hi hu => hpl.no u (List.mem_of_getElem? (i := i) (by rw [List.getElem?_set_ne (fun e => hi e.symm)]; exact hu))
  have hful : fullN (l1.set m ⟨1, nm, pc, t⟩) = fullN (l1.set m staleS) + 1 := by
    rw [if_pos rfl] at hcn1
    simp only [full_cnt] at hst ⊢
    omega
  have huq : Uniq (l1.set m ⟨1, nm, pc, t⟩) := by
    intro i j nm' pc' u v hi hj h1 h2
    rcases hget hi with ⟨rfl, rfl⟩ | ⟨hi1, hi2⟩ <;> rcases hget hj with ⟨rfl, rfl⟩ | ⟨hj1, hj2⟩
    · rfl
    · obtain ⟨_, e1, e2⟩ := isL_iff.1 h1
      have := hno j v hj1 hj2
      simp only at e1 e2
      rw [e1, e2, h2] at this
      cases this
    · obtain ⟨_, e1, e2⟩ := isL_iff.1 h2
      have := hno i u hi1 hi2
      simp only at e1 e2
      rw [e1, e2, h1] at this
      cases this
    · exact h.ci.uniq i j nm' pc' u v hi2 hj2 h1 h2
  have hci : CI d n (l1.set m ⟨1, nm, pc, t⟩) := by
    refine ⟨by rw [List.length_set]; exact hl, h.ci.lim, by omega, huq, fun hd i u hu h1 => ?_⟩
    rcases hx with hx | ⟨hd1, hh, hx⟩
    · rw [hd] at hx; cases hx
    · rcases hget hu with ⟨rfl, rfl⟩ | ⟨hi, hu'⟩
      · exact ⟨b, hh⟩
      · obtain ⟨b', hb'⟩ := h.ci.mat hd1 i u hu' h1
        exact ⟨b', hb'.1, by rw [hx i hi]; exact hb'.2⟩
  have hpot : d.calls + cntN 2 (l1.set m ⟨1, nm, pc, t⟩) ≤ d0.calls + cntN 2 l0 + 8 := by
    rw [if_neg (show ¬ (1 : Nat) = 2 by decide)] at hcnt
    omega
  by_cases hd : d.down = true
  · exact pe_down hsh hci hpot (by rw [hr, h.room]) (by rw [hc, h.crash]) hd fun ho => by rw [hok ho] at hd; cases hd
  · have hd' : d.down = false := by simpa using hd
    rcases hx with hx | ⟨hd1, hh, hx⟩
    · exact absurd hx hd
    · have ht : tellD d1 l1 = tellD d0 l0 := by
        rcases h.tell with e | ⟨_, _, e⟩
        · rw [hd1] at e; cases e
        · exact e
      have hself : (l1.set m ⟨1, nm, pc, t⟩)[m]? = some ⟨1, nm, pc, t⟩ := List.getElem?_set_self (by omega)
      have hown : lookC (tellD d (l1.set m ⟨1, nm, pc, t⟩)) (nm, pc) = some b := by
        rw [tellD_up hd', look_some huq (cFile d) (x := (nm, pc)) hself (isL_iff.2 ⟨rfl, rfl, rfl⟩), has_held hh]
      refine ⟨hsh, hci, hpot, by rw [hr, h.room], by rw [hc, h.crash], ?_, fun y hy => ?_, .inr (.inr hown), fun ho => ⟨?_, hown⟩⟩
      · rw [← ht, tellD_up hd', tellD_up hd1, tell_length, tell_length]
        omega
      · rw [← ht, tellD_up hd', tellD_up hd1]
        refine look_set h.ci.uniq huq (by omega) hx y ?_
        cases hb : Sl.isL y.1 y.2 ⟨1, nm, pc, t⟩ with
        | false => rfl
        | true =>
          obtain ⟨_, e1, e2⟩ := isL_iff.1 hb
          exact absurd (Prod.ext e1.symm e2.symm) hy
      · have ho1 := (h.okc ho).1
        refine ⟨⟨hd', by rw [hc]; exact ho1.snd.2.1, by rw [hr]; exact ho1.snd.2.2⟩, fun u hu => ?_, fun i nm' pc' b' hb' => ?_⟩
        · rcases List.mem_or_eq_of_mem_set hu with h1 | rfl
          · exact ho1.none2 u h1
          · simp
        · by_cases e : i = m
          · subst e
            obtain ⟨rfl, rfl, rfl⟩ := has_one hb' hh
            exact ⟨_, hself, isL_iff.2 ⟨rfl, rfl, rfl⟩⟩
          · obtain ⟨u, hu, h1⟩ := ho1.back i nm' pc' b' ⟨hb'.1, by rw [← hx i e]; exact hb'.2⟩
            exact ⟨u, by rw [List.getElem?_set_ne (fun e' => e e'.symm)]; exact hu, h1⟩
end
end Go.Proofs.Ytmlijnekidihbaa

/-
  What Open does to the slots, as plain data.
-/
namespace Go.Proofs.Ytmlijnekidihbaa
open Go.RowKit

def Same (k : Nat) (l l0 : List Sl) : Prop := ∀ (i : Nat) (s s0 : Sl), i < k → l[i]? = some s → l0[i]? = some s0 → (s.kind = 1 ↔ s0.kind = 1) ∧ (s.kind = 1 → s.nm = s0.nm ∧ s.pc = s0.pc) ∧ s.kind ≠ 2

/-- The first 'k' slots are looked at. -/
structure RO (d : PD) (n k : Nat) (l : List Sl) : Prop where
  len : l.length = 64
  rest : ∀ i, k ≤ i → i < 64 → l[i]? = some Sl.none_
  few : fullN l ≤ n
  uniq : Uniq l
  mat : ∀ i s, l[i]? = some s → s.kind = 1 → ∃ b, HasC (cFile d) i s.nm s.pc b
  same : ∀ l0, OkC d l0 → CI d n l0 → Same k l l0

theorem full_le : ∀ (l l' : List Sl), l.length = l'.length → (∀ (i : Nat) (s s' : Sl), l[i]? = some s → l'[i]? = some s' → s.kind = 1 → s'.kind = 1) → fullN l ≤ fullN l'
  | [], _, _, _ => Nat.zero_le _
  | _ :: _, [], h, _ => by simp at h
  | s :: r, s' :: r', h, hp => by
    have ih := full_le r r' (by simpa using h) fun i t t' ht ht' => hp (i + 1) t t' (by simpa using ht) (by simpa using ht')
    have h0 := hp 0 s s' rfl rfl
    unfold fullN at ih ⊢
    by_cases h1 : s.kind = 1
    · rw [List.filter_cons_of_pos (by simp [h1]), List.filter_cons_of_pos (by simp [h0 h1]), List.length_cons, List.length_cons]; omega
    · rw [List.filter_cons_of_neg (by simp [h1])]
      by_cases h2 : s'.kind = 1
      · rw [List.filter_cons_of_pos (by simp [h2]), List.length_cons]; omega
      · rw [List.filter_cons_of_neg (by simp [h2])]; exact ih

def zeros : List Sl := List.replicate 64 Sl.none_
theorem none_isL (nm : ByteArray) (pc : Int) : Sl.none_.isL nm pc = false := by simp [Sl.isL, Sl.none_]

theorem ro_start (d : PD) (n : Nat) : RO d n 0 zeros := by
  refine ⟨by simp [zeros], fun i _ h => (by unfold zeros; rw [List.getElem?_replicate, if_pos h]), ?_, ?_, ?_, fun l0 _ _ i s s0 h => absurd h (Nat.not_lt_zero _)⟩
  · have : fullN zeros = 0 := by decide
    omega
  · intro i j nm pc s t hs _ h1 _
    unfold zeros at hs
    rw [List.getElem?_replicate] at hs
    split at hs
    · cases hs; rw [none_isL] at h1; cases h1
    · cases hs
  · intro i s hs hk
    unfold zeros at hs
    rw [List.getElem?_replicate] at hs
    split at hs
    · cases hs; cases hk
    · cases hs

section
variable {d : PD} {n k : Nat} {l : List Sl}
theorem RO.skip (h : RO d n k l) (hk : k < 64) (hno : ∀ nm pc b, ¬ HasC (cFile d) k nm pc b) : RO d n (k + 1) l := by
  refine ⟨h.len, fun i hi => h.rest i (by omega), h.few, h.uniq, h.mat, fun l0 ho hc i s s0 hi hs hs0 => ?_⟩
  rcases Nat.lt_or_ge i k with hlt | hge
  · exact h.same l0 ho hc i s s0 hlt hs hs0
  · obtain rfl : i = k := by omega
    rw [h.rest i (Nat.le_refl _) hk] at hs
    cases hs
    refine ⟨⟨fun e => (by cases e), fun e => ?_⟩, fun e => (by cases e), by simp [Sl.none_]⟩
    obtain ⟨b, hb⟩ := hc.mat ho.snd.1 i s0 hs0 e
    exact absurd hb (hno _ _ _)

/-- A slot that is full on the disk, but is not taken. -/
theorem RO.stale (h : RO d n k l) (hk : k < 64) (hno : ∀ l0, OkC d l0 → CI d n l0 → False) : RO d n (k + 1) (l.set k ⟨2, ⟨#[]⟩, 0, 0⟩) := by
  have hs := h.rest k (Nat.le_refl _) hk
  have hl := h.len
  have hset : ∀ {i : Nat} {s : Sl}, (l.set k ⟨2, ⟨#[]⟩, 0, 0⟩)[i]? = some s → s.kind = 1 → l[i]? = some s := by
    intro i s hi h1
    by_cases e : i = k
    · subst e
      rw [List.getElem?_set_self (by omega)] at hi
      cases hi; cases h1
    · rwa [List.getElem?_set_ne (fun e' => e e'.symm)] at hi
  refine ⟨by rw [List.length_set]; exact hl, fun i hi h64 => ?_, ?_, ?_, fun i s hi h1 => h.mat i s (hset hi h1) h1, fun l0 ho hc => (hno l0 ho hc).elim⟩
  · rw [List.getElem?_set_ne (by omega)]
    exact h.rest i (by omega) h64
  · have := cnt_set 1 l k _ ⟨2, ⟨#[]⟩, 0, 0⟩ hs
    rw [full_cnt]
    have h2 := h.few
    rw [full_cnt] at h2
    simp [Sl.none_] at this
    omega
  · intro i j nm pc s t hi hj h1 h2
    exact h.uniq i j nm pc s t (hset hi (isL_iff.1 h1).1) (hset hj (isL_iff.1 h2).1) h1 h2

theorem RO.l0 (h : RO d n k l) (hk : k < 64) {nm : ByteArray} {pc : Int} {b : List UInt8} (hh : HasC (cFile d) k nm pc b) {l0 : List Sl} (ho : OkC d l0) (hc : CI d n l0) : (∀ s ∈ l, s.isL nm pc = false) ∧ fullN l < n := by
  obtain ⟨s0, hs0, h0⟩ := ho.back k nm pc b hh
  have hl := h.len
  have hl0 := hc.len
  have hsame := h.same l0 ho hc
  have hlow : ∀ (i : Nat) (s : Sl), l[i]? = some s → s.kind = 1 → i < k := by
    intro i s hi h1
    rcases Nat.lt_or_ge i k with hlt | hge
    · exact hlt
    · have h64 : i < 64 := by have := (List.getElem?_eq_some_iff.1 hi).1; omega
      rw [h.rest i hge h64] at hi
      cases hi; cases h1
  constructor
  · intro s hs
    cases hb : s.isL nm pc with
    | false => rfl
    | true =>
      exfalso
      obtain ⟨i, hi, e⟩ := List.getElem_of_mem hs
      have hi' : l[i]? = some s := by rw [List.getElem?_eq_getElem hi, e]
      obtain ⟨k1, k2, k3⟩ := isL_iff.1 hb
      have hik := hlow i s hi' k1
      obtain ⟨t, ht⟩ : ∃ t, l0[i]? = some t := ⟨_, List.getElem?_eq_getElem (by omega)⟩
      obtain ⟨e1, e2, _⟩ := hsame i s t hik hi' ht
      obtain ⟨e3, e4⟩ := e2 k1
      have := hc.uniq i k nm pc t s0 ht hs0 (isL_iff.2 ⟨e1.1 k1, by rw [← e3, k2], by rw [← e4, k3]⟩) h0
      omega
  · have h1 := full_le (l.set k ⟨1, nm, pc, 0⟩) l0 (by rw [List.length_set]; omega) fun i s s' hi hi' hk1 => by
      by_cases e : i = k
      · subst e
        rw [hs0] at hi'
        cases hi'
        exact (isL_iff.1 h0).1
      · rw [List.getElem?_set_ne (fun e' => e e'.symm)] at hi
        exact (hsame i s s' (hlow i s hi hk1) hi hi').1.1 hk1
    have h2 := cnt_set 1 l k _ ⟨1, nm, pc, 0⟩ (h.rest k (Nat.le_refl _) hk)
    have h3 := hc.few
    rw [full_cnt] at h1 h3 ⊢
    rw [full_cnt] at h1
    simp [Sl.none_] at h2
    omega

theorem RO.take (h : RO d n k l) (hk : k < 64) {nm : ByteArray} {pc : Int} {b : List UInt8} (hh : HasC (cFile d) k nm pc b) (hno : ∀ s ∈ l, s.isL nm pc = false) (hn : fullN l ≠ n) : RO d n (k + 1) (l.set k ⟨1, nm, pc, 0⟩) := by
  have hs := h.rest k (Nat.le_refl _) hk
  have hl := h.len
  have hset : ∀ {i : Nat} {s : Sl}, (l.set k ⟨1, nm, pc, 0⟩)[i]? = some s → (i = k ∧ s = ⟨1, nm, pc, 0⟩) ∨ (i ≠ k ∧ l[i]? = some s) := by
    intro i s hi
    by_cases e : i = k
    · subst e
      rw [List.getElem?_set_self (by omega)] at hi
      cases hi; exact .inl ⟨rfl, rfl⟩
    · rw [List.getElem?_set_ne (fun e' => e e'.symm)] at hi
      exact .inr ⟨e, hi⟩
  refine ⟨by rw [List.length_set]; exact hl, fun i hi h64 => ?_, ?_, ?_, ?_, fun l0 ho hc i s s0 hi hs1 hs0 => ?_⟩
  · rw [List.getElem?_set_ne (by omega)]
    exact h.rest i (by omega) h64
  · have := cnt_set 1 l k _ ⟨1, nm, pc, 0⟩ hs
    rw [full_cnt]
    have h2 := h.few
    rw [full_cnt] at h2 hn
    simp [Sl.none_] at this
    omega
  · intro i j nm' pc' s t hi hj h1 h2
    rcases hset hi with ⟨rfl, rfl⟩ | ⟨hi1, hi2⟩ <;> rcases hset hj with ⟨rfl, rfl⟩ | ⟨hj1, hj2⟩
    · rfl
    · obtain ⟨_, e1, e2⟩ := isL_iff.1 h1
      have := hno t (List.mem_of_getElem? hj2)
      simp only at e1 e2
      rw [e1, e2, h2] at this
      cases this
    · obtain ⟨_, e1, e2⟩ := isL_iff.1 h2
      have := hno s (List.mem_of_getElem? hi2)
      simp only at e1 e2
      rw [e1, e2, h1] at this
      cases this
    · exact h.uniq i j nm' pc' s t hi2 hj2 h1 h2
  · intro i s hi h1
    rcases hset hi with ⟨rfl, rfl⟩ | ⟨_, hi2⟩
    · exact ⟨b, hh⟩
    · exact h.mat i s hi2 h1
  · rcases hset hs1 with ⟨rfl, rfl⟩ | ⟨hne, hi2⟩
    · obtain ⟨t, ht, h0⟩ := ho.back i nm pc b hh
      rw [hs0] at ht
      cases ht
      obtain ⟨e1, e2, e3⟩ := isL_iff.1 h0
      exact ⟨⟨fun _ => e1, fun _ => rfl⟩, fun _ => ⟨e2.symm, e3.symm⟩, by simp⟩
    · exact h.same l0 ho hc i s s0 (by omega) hi2 hs0

theorem RO.done (h : RO d n 64 l) (hn : n ≤ 64) : CI d n l := ⟨h.len, hn, h.few, h.uniq, fun _ => h.mat⟩

theorem RO.again (h : RO d n 64 l) {l0 : List Sl} (ho : OkC d l0) (hc : CI d n l0) : OkC d l ∧ tellD d l = tellD d l0 := by
  have hsame := h.same l0 ho hc
  have hl := h.len
  have hl0 := hc.len
  have hat : ∀ i, i < 64 → ∃ s s0 : Sl, l[i]? = some s ∧ l0[i]? = some s0 := fun i hi => ⟨_, _, List.getElem?_eq_getElem (by omega), List.getElem?_eq_getElem (by omega)⟩
  refine ⟨⟨ho.snd, fun s hs => ?_, fun i nm pc b hh => ?_⟩, ?_⟩
  · obtain ⟨i, hi, e⟩ := List.getElem_of_mem hs
    obtain ⟨s1, s0, h1, h0⟩ := hat i (by omega)
    have := (hsame i s1 s0 (by omega) h1 h0).2.2
    rw [List.getElem?_eq_getElem hi, e] at h1
    cases h1
    exact this
  · obtain ⟨s0, h0, hb⟩ := ho.back i nm pc b hh
    have hi : i < 64 := by have := (List.getElem?_eq_some_iff.1 h0).1; omega
    obtain ⟨s, _, h1, _⟩ := hat i hi
    obtain ⟨e1, e2, _⟩ := hsame i s s0 hi h1 h0
    obtain ⟨k1, k2, k3⟩ := isL_iff.1 hb
    obtain ⟨e3, e4⟩ := e2 (e1.2 k1)
    exact ⟨s, h1, isL_iff.2 ⟨e1.2 k1, by rw [e3, k2], by rw [e4, k3]⟩⟩
  · unfold tellD
    rw [tell_congr l0 l 0 (by omega) fun i s0 s h0 h1 => ?_]
    have hi : i < 64 := by have := (List.getElem?_eq_some_iff.1 h0).1; omega
    obtain ⟨e1, e2, _⟩ := hsame i s s0 hi h1 h0
    exact ⟨e1.symm, fun hk => by obtain ⟨e3, e4⟩ := e2 (e1.2 hk); exact ⟨e3, e4, rfl⟩⟩

theorem RO.fresh (h : RO d n 64 l) (hn : n ≤ 64) (hc : cur d = none) : tellD d l = [] ∧ (Sound d → OkC d l) := by
  have hF : cFile d = [] := by rw [cFile_cur, hc]; cases d.down <;> rfl
  have hno : ∀ i nm pc b, ¬ HasC (cFile d) i nm pc b := fun i nm pc b hh => by have := has_head hh; rw [hF] at this; simp at this
  have hz : ∀ s ∈ l, s.kind ≠ 1 := fun s hs h1 => by
    obtain ⟨i, hi, e⟩ := List.getElem_of_mem hs
    obtain ⟨b, hb⟩ := h.mat i s (by rw [List.getElem?_eq_getElem hi, e]) h1
    exact hno _ _ _ _ hb
  constructor
  · unfold tellD
    cases d.down with
    | true => rfl
    | false =>
      refine List.eq_nil_of_length_eq_zero ?_
      show (tellL (cFile d) 0 l).length = 0
      rw [tell_length]
      unfold fullN
      rw [List.filter_eq_nil_iff.2 fun s hs => by simpa using hz s hs]
      rfl
  · intro hs
    have h0 := ro_start d n
    have ho : OkC d zeros := ⟨hs, fun s hs => by unfold zeros at hs; rw [(List.mem_replicate.1 hs).2]; decide, fun i nm pc b hh => (hno i nm pc b hh).elim⟩
    exact (h.again ho ⟨h0.len, hn, h0.few, h0.uniq, fun _ => h0.mat⟩).1
end
end Go.Proofs.Ytmlijnekidihbaa
