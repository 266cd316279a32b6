/-
  What frame.Scan and the document's Scan do.
-/
import Derived.Test.YtlhppbogkmljbaaFrameRef
namespace Go.Proofs.Ytlhppbogkmljbaa
open Go.RowKit

theorem info_rows : (Try.prog.info? 22).map (fun i => (i.zero, i.size, i.bytes)) = some (some (.slice none 0 0), 1, 24) := by kernel_rfl

/-- What Scan tells. -/
def ScanFr (w : World) (l : List UInt8) (e : Ending) (w' : World) : Prop :=
  ∃ v, e = .returned (.tuple #[v, .int .i64 ((scanL l).2 : Nat)]) ∧ OwnLL w' w.heap.size 5 22 v (scanL l).1 ∧ Below w.heap.size w w'

theorem own_slice {w : World} {B e e' : Nat} {v : Value} {ls : List (List UInt8)} (h : OwnLL w B e e' v ls) : ∃ a cap, v = .slice a ls.length cap := by
  obtain ⟨a, cap, h, _⟩ := h.read.form
  exact ⟨a, cap, h⟩

theorem ScanSo.many {b : List UInt8} {l : List (List UInt8)} {k : Nat} (h : ScanSo b l k) : (scanL b).1.length ≥ l.length := by
  unfold ScanSo at h
  rw [h]
  simp

/-- No more records than bytes. -/
theorem scanN_few : ∀ (k : Nat) (b : List UInt8) (at_ : Nat), at_ ≤ b.length → at_ + (scanN k b at_).1.length ≤ b.length
  | 0, b, at_, h => by simpa [scanN] using h
  | k + 1, b, at_, h => by
    unfold scanN
    by_cases ho : frOk b at_ = true
    · rw [if_pos ho]
      have hl := frOk_le ho
      have := scanN_few k b (at_ + 8 + frN b at_) hl
      simp only [List.length_cons]
      omega
    · rw [if_neg ho]
      simpa using h

theorem scan_few {b : List UInt8} {l : List (List UInt8)} {k : Nat} (h : ScanSo b l k) : l.length ≤ b.length := by
  have h1 := h.many
  have h2 := scanN_few (b.length + 1) b 0 (by omega)
  unfold scanL at h1
  omega

set_option maxRecDepth 100000 in
set_option maxHeartbeats 2000000 in
theorem fscan_any (w : World) (v : Value) (l : List UInt8) (h : RdB w v l) (hn : l.length < 1000000000) :
    Calls Try.prog 9 #[v] w (ScanFr w l) := by
  have HV := Lib.hid h
  clear h
  go_enter Try.func9, Try.ntmps9
  go_wp2
  go_step3
  go_wp2
  go_step3
  go_wp2
  go_loopw [2, 3] (fun u at_ wr => ∃ (k : Nat) (ls : List (List UInt8)), k ≤ l.length ∧ at_ = .int .i64 k ∧ Hid (ScanSo l ls k) ∧ Hid (OwnLL wr w.heap.size 5 22 u ls) ∧ Hid (Below w.heap.size w wr)) (fun _ at_ _ => l.length - (intOf at_).toNat)
  case atStart => exact ⟨0, [], Nat.zero_le _, rfl, Lib.hid (ScanSo.start l), Lib.hid (OwnLL.nil _ _ _ _), Lib.hid (Below.refl _ _)⟩
  case round =>
    obtain ⟨k, ls, hk, rfl, HS, HO, HB⟩ := hrel
    have HG := Lib.hid (fget_any wr v l k (HV.out.below HB.out (Nat.le_refl _)) (by omega) (by omega))
    cases hok : frOk l k with
    | false =>
      have HOK := Lib.hid hok
      clear hok
      go_wp2_with fail
      refine HG.out.mono ?_
      rintro e w1 (⟨_, rfl, hb1⟩ | ⟨p, hp, ho, _⟩)
      rotate_left
      · exact absurd ho (by rw [show p = k from by omega, HOK.out]; simp)
      have HB1 := Lib.hid hb1
      clear hb1
      go_wp2
      rw [Exit.noGoto_ret]
      go_ret2
      unfold ScanFr
      rw [HS.out.stop HOK.out]
      exact ⟨_, rfl, HO.out.below HB1.out (Nat.le_refl _), HB.out.trans (HB1.out.mono HB.out.size)⟩
    | true =>
      have hle := frOk_le hok
      have HOK := Lib.hid hok
      have HN := Lib.hid (HS.out.next hok)
      clear hok
      go_wp2_with fail
      refine HG.out.mono ?_
      rintro e w1 (⟨hno, rfl, _⟩ | ⟨p, hp, _, x, rfl, hx, hb1⟩)
      · exact absurd (hno k rfl) (by rw [HOK.out]; simp)
      obtain rfl : p = k := by omega
      obtain ⟨xa, xc, rfl⟩ := rdB_form' hx.read
      obtain ⟨cs, r1, r2, r3⟩ := HO.out.push (e2 := 22) hb1 HB.out.size hx
      have hfew := scan_few HN.out
      rw [List.length_append] at hfew
      have R1 := Lib.hid r1
      have R2 := Lib.hid r2
      have R3 := Lib.hid r3
      have HF := Lib.hid hfew
      have hpl := frP_length hle
      have HPL := Lib.hid hpl
      have HPE : Hid (∃ f, frP l p = f) := Lib.hid ⟨_, rfl⟩
      clear r1 r2 r3 hx hb1 hp hfew hpl
      go_wp2_with (at_builtin; refine wpList_plain rfl fun K' hK' => ?_; refine wp_append_at (.tmp 16) (.tmp 18) 26 rfl 22 1 24 (.slice none 0 0) Try.underlying26 info_rows rfl (by decide) _ _ _ 1 _ _ rfl rfl R1.out R2.out (by simp [Value.oneCell']) ?n1 ?n2 ?k1)
      case n1 => have := HF.out; simp at this; omega
      case n2 => have := HF.out; simp at this; unfold maxLen; omega
      case k1 =>
        intro v' w' hown hmv
        refine hK' _ _ ?_
        obtain ⟨q1, q2⟩ := R3.out v' w' hown hmv
        have Q1 := Lib.hid q1
        have Q2 := Lib.hid q2
        clear q1 q2 hown hmv
        go_wp2
        go_roundw
        case rel => exact ⟨p + 8 + frN l p, ls ++ [frP l p], by omega, rfl, HN, Q1, Lib.hid (HB.out.trans Q2.out)⟩
        case measure => simp [intOf]; omega

set_option maxRecDepth 100000 in
set_option maxHeartbeats 2000000 in
theorem rscan_any (w : World) (v : Value) (l : List UInt8) (h : RdB w v l) (hn : l.length < 1000000000) :
    Calls Try.prog 10 #[v] w (ScanFr w l) := by
  have HV := Lib.hid h
  clear h
  go_enter Try.func10, Try.ntmps10
  go_wp2
  go_loopw [4, 5] (fun u at_ wr => ∃ (k : Nat) (ls : List (List UInt8)), k ≤ l.length ∧ at_ = .int .i64 k ∧ Hid (ScanSo l ls k) ∧ Hid (OwnLL wr w.heap.size 5 22 u ls) ∧ Hid (Below w.heap.size w wr)) (fun _ at_ _ => l.length - (intOf at_).toNat)
  case atStart => exact ⟨0, [], Nat.zero_le _, rfl, Lib.hid (ScanSo.start l), Lib.hid (OwnLL.nil _ _ _ _), Lib.hid (Below.refl _ _)⟩
  case round =>
    obtain ⟨k, ls, hk, rfl, HS, HO, HB⟩ := hrel
    have HG := Lib.hid (runframe_any wr v l k (HV.out.below HB.out (Nat.le_refl _)) (by omega) (by omega))
    cases hok : frOk l k with
    | false =>
      have HOK := Lib.hid hok
      clear hok
      go_wp2_with fail
      refine HG.out.mono ?_
      rintro e w1 (⟨_, rfl, hb1⟩ | ⟨p, hp, ho, _⟩)
      rotate_left
      · exact absurd ho (by rw [show p = k from by omega, HOK.out]; simp)
      have HB1 := Lib.hid hb1
      clear hb1
      go_wp2
      go_ret2
      unfold ScanFr
      rw [HS.out.stop HOK.out]
      exact ⟨_, rfl, HO.out.below HB1.out (Nat.le_refl _), HB.out.trans (HB1.out.mono HB.out.size)⟩
    | true =>
      have hle := frOk_le hok
      have HOK := Lib.hid hok
      have HN := Lib.hid (HS.out.next hok)
      clear hok
      go_wp2_with fail
      refine HG.out.mono ?_
      rintro e w1 (⟨hno, rfl, _⟩ | ⟨p, hp, _, x, rfl, hx, hb1⟩)
      · exact absurd (hno k rfl) (by rw [HOK.out]; simp)
      obtain rfl : p = k := by omega
      obtain ⟨xa, xc, rfl⟩ := rdB_form' hx.read
      obtain ⟨cs, r1, r2, r3⟩ := HO.out.push (e2 := 22) hb1 HB.out.size hx
      have hfew := scan_few HN.out
      rw [List.length_append] at hfew
      have R1 := Lib.hid r1
      have R2 := Lib.hid r2
      have R3 := Lib.hid r3
      have HF := Lib.hid hfew
      have hpl := frP_length hle
      have HPL := Lib.hid hpl
      have HPE : Hid (∃ f, frP l p = f) := Lib.hid ⟨_, rfl⟩
      clear r1 r2 r3 hx hb1 hp hfew hpl
      go_wp2_with (at_builtin; refine wpList_plain rfl fun K' hK' => ?_; refine wp_append_at (.tmp 20) (.tmp 22) 26 rfl 22 1 24 (.slice none 0 0) Try.underlying26 info_rows rfl (by decide) _ _ _ 1 _ _ rfl rfl R1.out R2.out (by simp [Value.oneCell']) ?n1 ?n2 ?k1)
      case n1 => have := HF.out; simp at this; omega
      case n2 => have := HF.out; simp at this; unfold maxLen; omega
      case k1 =>
        intro v' w' hown hmv
        refine hK' _ _ ?_
        obtain ⟨q1, q2⟩ := R3.out v' w' hown hmv
        have Q1 := Lib.hid q1
        have Q2 := Lib.hid q2
        clear q1 q2 hown hmv
        go_wp2
        go_roundw
        case rel => exact ⟨p + 8 + frN l p, ls ++ [frP l p], by omega, rfl, HN, Q1, Lib.hid (HB.out.trans Q2.out)⟩
        case measure => simp [intOf]; omega
end Go.Proofs.Ytlhppbogkmljbaa
