/-
  The walk of SeekNil.
-/
import Derived.Test.YtabmdhbikedhmaaSeekC
namespace Go.Proofs.Ytabmdhbikedhmaa
open Go.RowKit

set_option maxRecDepth 100000 in
set_option maxHeartbeats 600000 in
theorem seekNil_walkC {It : (Nat → Prop) → World → Nat → List Ent → Int → Prop} (hi : ItC It) (u : ByteArray) (s k : Int) (W : World) (wu : u.size ≤ maxLen) (ws : (Lit.int .i64 s).wf = true) (wk : (Lit.int .i64 k).wf = true) :
    Calls Try.prog 6 #[.agg #[.string u, .int .i64 s, .int .i64 k]] W fun r w' => r = .returned (.bool true) ∧ Below W.heap.size W w' := by
  have HNO := Lib.hid (show ansN none = .tuple #[.agg #[.string ⟨#[]⟩, .int .i64 0, .int .i64 0, .string ⟨#[]⟩], .bool false] from rfl)
  have HAW := Lib.hid (awake14_any hi)
  have HI := Lib.hid hi
  have HU := Lib.hid wu
  have HS := Lib.hid ws
  have HK := Lib.hid wk
  clear wu ws wk hi
  obtain ⟨W0, hW0⟩ : ∃ W0, W0 = W.alloc (.cells #[.string u, .int .i64 s, .int .i64 k] 31) := ⟨_, rfl⟩
  have hbx : W0.heap[W.heap.size]? = some (.cells #[.string u, .int .i64 s, .int .i64 k] 31 (0, 0)) := by rw [hW0]; exact heap_alloc_new W _
  have HW0 := Lib.hid hW0
  have HE := Lib.hid (show Below W.heap.size W W0 by rw [hW0]; exact (Below.refl _ _).alloc (Nat.le_refl _) _)
  have HKB : Hid (∀ wz, Below W0.heap.size W0 wz → wz.cell? ⟨W.heap.size, 0, none⟩ = some (.string u) ∧ wz.cell? ⟨W.heap.size, 1, none⟩ = some (.int .i64 s) ∧ wz.cell? ⟨W.heap.size, 2, none⟩ = some (.int .i64 k)) := Lib.hid fun wz hz => by
    have h := (hz.block W.heap.size (blk_lt hbx)).trans hbx
    exact ⟨blk_cell (i := 0) h, blk_cell (i := 1) h, blk_cell (i := 2) h⟩
  have HB : Hid (Below W0.heap.size W0 W0) := Lib.hid (Below.refl _ _)
  clear hW0 hbx
  go_enter Try.func6, Try.ntmps6
  go_upto_region 2 with (fail)
  rw [← HW0.out]
  clear HW0
  go_wp2_with (first | (go_at_call 11; (refine (HI.out.nfirst _).mono ?_); rintro e w8 ⟨rfl, hb8⟩; have HB := Lib.hid (HB.out.trans (hb8.mono HB.out.size)); obtain ⟨k0, k1, k2⟩ := HKB.out _ HB.out;  clear hb8) | (go_at_call 13; (refine (HI.out.nlast _).mono ?_); rintro e w8 ⟨rfl, hb8⟩; have HB := Lib.hid (HB.out.trans (hb8.mono HB.out.size)); obtain ⟨k0, k1, k2⟩ := HKB.out _ HB.out;  clear hb8) | (go_at_call 17; (refine (HI.out.nnext _).mono ?_); rintro e w8 ⟨rfl, hb8⟩; have HB := Lib.hid (HB.out.trans (hb8.mono HB.out.size)); obtain ⟨k0, k1, k2⟩ := HKB.out _ HB.out;  clear hb8) | (go_at_call 19; (refine (HI.out.nprev _).mono ?_); rintro e w8 ⟨rfl, hb8⟩; have HB := Lib.hid (HB.out.trans (hb8.mono HB.out.size)); obtain ⟨k0, k1, k2⟩ := HKB.out _ HB.out;  clear hb8) | (go_at_call 15; (refine (HI.out.nseek _ u s k HU.out HS.out HK.out).mono ?_); rintro e w8 ⟨rfl, hb8⟩; have HB := Lib.hid (HB.out.trans (hb8.mono HB.out.size)); obtain ⟨k0, k1, k2⟩ := HKB.out _ HB.out;  clear hb8) | (go_at_call 21; (refine (HI.out.nat_ _).mono ?_); rintro e w8 ⟨rfl, hb8⟩; rw [HNO.out]; have HB := Lib.hid ((HB.out.trans (hb8.mono HB.out.size)).alloc (HB.out.trans (hb8.mono HB.out.size)).size (.cells #[.string ⟨#[]⟩, .int .i64 0, .int .i64 0, .string ⟨#[]⟩] 36)); obtain ⟨k0, k1, k2⟩ := HKB.out _ HB.out;  clear hb8) | (go_at_call 8; (refine (HAW.out _).mono ?_); rintro e w9 ⟨rfl, hb9⟩))
  go_ret
  exact ⟨rfl, belowT (belowT HE.out HB.out) hb9⟩
end Go.Proofs.Ytabmdhbikedhmaa
