import Derived.Test.YtmlijnekidihbaaNum1
import Derived.Test.YtmlijnekidihbaaMg01
import Derived.Lib.SlBytesConst
import Derived.Test.YtmlijnekidihbaaMg00
import Derived.Test.YtmlijnekidihbaaDiskClone2
import Derived.OpenShut

/-
  The example that the statements of layer 4 begin with.
-/
namespace Go.Proofs.Ytmlijnekidihbaa
open Go.RowKit

def k0 : PD := PD.new 100 0 false
def k1 : PD := ⟨100, 0, false, 1, false, [PF.new], [([97], 0)], [], [⟨0, [], [97], 0⟩]⟩
def k2 : PD := ⟨100, 0, false, 2, false, [⟨[], [120, 121], [(0, [120, 121])]⟩], [([97], 0)], [], [⟨0, [], [97], 0⟩]⟩
def k3 : PD := ⟨100, 0, false, 3, false, [⟨[120, 121], [120, 121], []⟩], [([97], 0)], [], [⟨0, [], [97], 0⟩]⟩
def k4 : PD := ⟨100, 0, false, 0, false, [], [], [], []⟩

theorem k0_make : k0.make [97] = (0, k1) := by kernel_rfl
theorem k1_write : k1.write [97] 0 [120, 121] = (0, k2) := by kernel_rfl
theorem k2_safe : k2.makeSafe [97] = (0, k3) := by kernel_rfl
theorem k3_redone : k3.redone (rest 0 k3.loose.length) = { k3 with names := [] } := by kernel_rfl
theorem k3_fall : ((((k3.redone (rest 0 k3.loose.length)).fell [] (k3.redone (rest 0 k3.loose.length)).names.length).settled).begun 100 0 false) = k4 := by kernel_rfl
theorem k3_list : k3.list.length = 1 := by kernel_rfl
theorem k4_list : k4.list.length = 0 := by kernel_rfl

theorem fallF_nil (keep : List Int) (fs : List PF) (k : Nat) : fallF keep [] fs k = fs := by
  induction k with
  | zero => rfl
  | succ k ih => simpa [fallF] using ih

theorem k_fl {safe now : List UInt8} (h1 : safe.length < 1000) (h2 : now.length < 1000) : ∀ f ∈ [(⟨safe, now, []⟩ : PF)], f.safe.length < 2000000 ∧ f.now.length < 2000000 ∧ f.loose.length < 10000 ∧ manyL f.loose < 900000000 ∧ WOk f.safe f.loose ∧ ∀ left, (kept f.loose left f.safe).length < 2000000 := by
  intro f hf
  rw [List.mem_singleton] at hf
  subst hf
  exact ⟨by show safe.length < _; omega, by show now.length < _; omega, by show 0 < 10000; omega, by show 0 < 900000000; omega, trivial, fun left => by simp only [kept]; omega⟩
theorem k_ch : ∀ c ∈ [(⟨0, [], [97], 0⟩ : PC)], ChOk c := by
  intro c hc
  rw [List.mem_singleton] at hc
  subst hc
  exact ⟨by decide, by decide, by decide, by decide⟩

theorem k0_small : Small k0 := ⟨by decide, by decide, by decide, by decide, by decide, by simp [k0, PD.new], by simp [k0, PD.new], by simp [k0, PD.new], by simp [k0, PD.new], by simp [k0, PD.new], by simp [k0, PD.new]⟩
theorem k1_small : Small k1 := ⟨by decide, by decide, by decide, by decide, by decide, by simp [k1], by simp [k1], k_ch, k_fl (by decide) (by decide), by simp [k1], by simp [k1]⟩
theorem k2_small : Small k2 := by
  refine ⟨by decide, by decide, by decide, by decide, by decide, by simp [k2], by simp [k2], k_ch, ?_, by simp [k2], by simp [k2]⟩
  intro f hf
  have hf : f = ⟨[], [120, 121], [(0, [120, 121])]⟩ := List.mem_singleton.1 hf
  subst hf
  refine ⟨by decide, by decide, by decide, by decide, ⟨Nat.zero_le _, trivial⟩, fun left => ?_⟩
  simp only [kept]
  split
  · simp
  · simp [wr]; omega
theorem k3_small (l : DB) (h1 : l.length < 10000) (h2 : ∀ x ∈ l, x.2 < 1) (h3 : ∀ x ∈ l, x.1.length < 1000) : Small { k3 with names := l } :=
  ⟨by simp [k3], by simp [k3], h1, by simp [k3], by simp [k3], by simpa [k3] using h2, by simp [k3], k_ch, k_fl (by decide) (by decide), h3, by simp [k3]⟩
theorem k3_redones (k : Nat) : Small (k3.redone k) := by
  cases k with
  | zero => exact k3_small [] (by decide) (by simp) (by simp)
  | succ k =>
    have e : k3.redone (k + 1) = { k3 with names := [([97], 0)] } := by
      have h1 : k3.loose.take (k + 1) = k3.loose := by simp [k3]
      have h2 : k3.loose.foldl ren k3.safe = [([97], 0)] := by kernel_rfl
      unfold PD.redone
      rw [h1, h2]
    rw [e]
    exact k3_small _ (by decide) (by simp) (by simp)
theorem k3_fells (k : Nat) : Small ((k3.redone (rest 0 k3.loose.length)).fell [] k) := by
  rw [k3_redone]
  unfold PD.fell
  rw [fallF_nil]
  exact k3_small [] (by decide) (by simp) (by simp)

theorem k4_small : Small k4 := ⟨by decide, by decide, by decide, by decide, by decide, by simp [k4], by simp [k4], by simp [k4], by simp [k4], by simp [k4], by simp [k4]⟩

/-- The example's disk, from call to call. -/
theorem rd_xy (w : World) : RdB (w.alloc (.cells #[.int .u8 120, .int .u8 121] 5 (2, 3))) (.slice (some ⟨w.heap.size, 0, none⟩) 2 2) [120, 121] :=
  ⟨_, 2, rfl, Nat.le_refl _, by unfold maxLen; omega, rfl, .inr ⟨w.heap.size, 0, rfl, by simp, fun j u hj => by rw [Nat.zero_add, World.cell?_alloc_mark]; simpa [bv] using hj⟩⟩

theorem run_make {g : Gh} {w : World} {p : Nat} (h : DiskAt g w p k0) : Calls Try.prog 44 #[.pointer (some ⟨p, 0, none⟩), .string ⟨#[97]⟩] w fun e w' => e = .returned (.int .i64 0) ∧ ∃ g', DiskAt g' w' p k1 ∧ Step g g' w w' := by
  have hm := make_at h k0_small (by decide) ⟨#[97]⟩ (by decide)
  rw [show (⟨#[97]⟩ : ByteArray).data.toList = [97] from rfl, k0_make] at hm
  exact hm
theorem run_write {g : Gh} {w : World} {p : Nat} (h : DiskAt g w p k1) : Calls Try.prog 26 #[.pointer (some ⟨p, 0, none⟩), .string ⟨#[97]⟩, .int .i64 0, .slice (some ⟨w.heap.size, 0, none⟩) 2 2] (w.alloc (.cells #[.int .u8 120, .int .u8 121] 5 (2, 3))) fun e w' => e = .returned (.int .i64 0) ∧ ∃ g', DiskAt g' w' p k2 ∧ Step g g' w w' := by
  have hb : Below w.heap.size w (w.alloc (.cells #[.int .u8 120, .int .u8 121] 5 (2, 3))) := (Below.refl _ _).alloc (Nat.le_refl _) _
  have hm := write_at (h.below hb) k1_small (by decide) ⟨#[97]⟩ (by decide) 0 _ [120, 121] (rd_xy w) (by decide) (fun _ k e => by cases e; exact out_of h (Nat.le_refl _))
  rw [show (⟨#[97]⟩ : ByteArray).data.toList = [97] from rfl, k1_write] at hm
  refine hm.mono ?_
  rintro e w' ⟨rfl, g', h1, h2⟩
  exact ⟨rfl, g', h1, (Step.below hb).trans h2⟩
theorem run_safe {g : Gh} {w : World} {p : Nat} (h : DiskAt g w p k2) : Calls Try.prog 29 #[.pointer (some ⟨p, 0, none⟩), .string ⟨#[97]⟩] w fun e w' => e = .returned (.int .i64 0) ∧ ∃ g', DiskAt g' w' p k3 ∧ Step g g' w w' := by
  have hm := safe_at h k2_small (by decide) ⟨#[97]⟩ (by decide)
  rw [show (⟨#[97]⟩ : ByteArray).data.toList = [97] from rfl, k2_safe] at hm
  exact hm
theorem run_fall {g : Gh} {w : World} {p : Nat} (h : DiskAt g w p k3) : Calls Try.prog 16 #[.pointer (some ⟨p, 0, none⟩), .agg #[.int .i64 100, .int .i64 0, .bool false, .slice none 0 0, .int .i64 0]] w fun e w' => e = .returned (.tuple #[]) ∧ ∃ g', DiskAt g' w' p k4 ∧ Step g g' w w' := by
  have hm := fall_at h 100 0 0 false (.slice none 0 0) [] (by decide) (by simp) (by decide) (.inl ⟨_, _, rfl, rfl⟩) k3_redones k3_fells (by rw [k3_redone]; exact List.nodup_nil)
  rw [k3_fall] at hm
  exact hm

end Go.Proofs.Ytmlijnekidihbaa

/-
  The walk of the statement DiskNil.
-/
namespace Go.Proofs.Ytmlijnekidihbaa
open Go.RowKit

set_option maxRecDepth 100000 in
set_option linter.unusedSimpArgs false in
theorem make_nil (w : World) (s : ByteArray) : Calls Try.prog 44 #[.pointer none, .string s] w fun e w' => e = .returned (.int .i64 2) ∧ Below w.heap.size w w' := by
  go_enter Try.func44, Try.ntmps44
  go_wp2_with (go_at_call 47; refine (shut_nil _).mono ?_; rintro e w5 ⟨rfl, rfl⟩)
  go_ret
  exact ⟨rfl, by first | exact Below.refl _ _ | exact (Below.refl _ _).alloc (Nat.le_refl _) _ | exact ((Below.refl _ _).alloc (Nat.le_refl _) _).alloc (by simp) _ | exact (((Below.refl _ _).alloc (Nat.le_refl _) _).alloc (by simp) _).alloc (by simp; omega) _⟩

set_option maxRecDepth 100000 in
set_option linter.unusedSimpArgs false in
theorem write_nil (w : World) (s : ByteArray) (a : Int) (va : Option Addr) (vn vc : Nat) : Calls Try.prog 26 #[.pointer none, .string s, .int .i64 a, .slice va vn vc] w fun e w' => e = .returned (.int .i64 2) ∧ Below w.heap.size w w' := by
  go_enter Try.func26, Try.ntmps26
  go_wp2_with (go_at_call 47; refine (shut_nil _).mono ?_; rintro e w5 ⟨rfl, rfl⟩)
  go_ret
  exact ⟨rfl, by first | exact Below.refl _ _ | exact (Below.refl _ _).alloc (Nat.le_refl _) _ | exact ((Below.refl _ _).alloc (Nat.le_refl _) _).alloc (by simp) _ | exact (((Below.refl _ _).alloc (Nat.le_refl _) _).alloc (by simp) _).alloc (by simp; omega) _⟩

set_option maxRecDepth 100000 in
set_option linter.unusedSimpArgs false in
theorem safe_nil (w : World) (s : ByteArray) : Calls Try.prog 29 #[.pointer none, .string s] w fun e w' => e = .returned (.int .i64 2) ∧ Below w.heap.size w w' := by
  go_enter Try.func29, Try.ntmps29
  go_wp2_with (go_at_call 47; refine (shut_nil _).mono ?_; rintro e w5 ⟨rfl, rfl⟩)
  go_ret
  exact ⟨rfl, by first | exact Below.refl _ _ | exact (Below.refl _ _).alloc (Nat.le_refl _) _ | exact ((Below.refl _ _).alloc (Nat.le_refl _) _).alloc (by simp) _ | exact (((Below.refl _ _).alloc (Nat.le_refl _) _).alloc (by simp) _).alloc (by simp; omega) _⟩

set_option maxRecDepth 100000 in
set_option linter.unusedSimpArgs false in
theorem read_nil (w : World) (s : ByteArray) (a n : Int) : Calls Try.prog 37 #[.pointer none, .string s, .int .i64 a, .int .i64 n] w fun e w' => e = .returned (.tuple #[.slice none 0 0, .int .i64 2]) ∧ Below w.heap.size w w' := by
  go_enter Try.func37, Try.ntmps37
  go_wp2_with (go_at_call 47; refine (shut_nil _).mono ?_; rintro e w5 ⟨rfl, rfl⟩)
  go_ret2
  exact ⟨rfl, by first | exact Below.refl _ _ | exact (Below.refl _ _).alloc (Nat.le_refl _) _ | exact ((Below.refl _ _).alloc (Nat.le_refl _) _).alloc (by simp) _ | exact (((Below.refl _ _).alloc (Nat.le_refl _) _).alloc (by simp) _).alloc (by simp; omega) _⟩

set_option maxRecDepth 100000 in
set_option linter.unusedSimpArgs false in
theorem size_nil (w : World) (s : ByteArray) : Calls Try.prog 43 #[.pointer none, .string s] w fun e w' => e = .returned (.tuple #[.int .i64 0, .bool false]) ∧ Below w.heap.size w w' := by
  go_enter Try.func43, Try.ntmps43
  go_wp2_with (go_at_call 47; refine (shut_nil _).mono ?_; rintro e w5 ⟨rfl, rfl⟩)
  go_ret2
  exact ⟨rfl, by first | exact Below.refl _ _ | exact (Below.refl _ _).alloc (Nat.le_refl _) _ | exact ((Below.refl _ _).alloc (Nat.le_refl _) _).alloc (by simp) _ | exact (((Below.refl _ _).alloc (Nat.le_refl _) _).alloc (by simp) _).alloc (by simp; omega) _⟩

set_option maxRecDepth 100000 in
set_option linter.unusedSimpArgs false in
theorem fall_nil (w : World) (room crash names : Int) (done : Bool) : Calls Try.prog 16 #[.pointer none, .agg #[.int .i64 room, .int .i64 crash, .bool done, .slice none 0 0, .int .i64 names]] w fun e w' => e = .returned (.tuple #[]) ∧ Below w.heap.size w w' := by
  go_enter Try.func16, Try.ntmps16
  go_wp2_with (go_at_call 47; refine (shut_nil _).mono ?_; rintro e w5 ⟨rfl, rfl⟩)
  refine bodyPost_ret (results_none rfl _ _ _) rfl ?_
  exact ⟨rfl, by first | exact Below.refl _ _ | exact (Below.refl _ _).alloc (Nat.le_refl _) _ | exact ((Below.refl _ _).alloc (Nat.le_refl _) _).alloc (by simp) _ | exact (((Below.refl _ _).alloc (Nat.le_refl _) _).alloc (by simp) _).alloc (by simp; omega) _⟩

end Go.Proofs.Ytmlijnekidihbaa

/-
  Gone.
-/
namespace Go.Proofs.Ytmlijnekidihbaa
open Go.RowKit

def PD.takes (d : PD) (n : List UInt8) : PD := { d with names := ren d.names ⟨2, n, [], 0⟩, loose := d.loose ++ [⟨2, n, [], 0⟩] }

def PD.gone (d : PD) (n : List UInt8) : Nat × PD :=
  if d.down then (7, d) else match dfind d.names n with
  | none => (2, d)
  | some _ => (d.err, d.after (·.takes n))

theorem dfind_in {l : DB} {n : List UInt8} {id : Nat} (h : dfind l n = some id) : (n, id) ∈ l := by
  unfold dfind at h
  obtain ⟨x, hx, rfl⟩ := Option.map_eq_some_iff.1 h
  have h1 := List.mem_of_find?_eq_some hx
  have h2 := List.find?_some hx
  have h3 : x.1 = n := by simpa using h2
  rw [← h3]
  exact h1

end Go.Proofs.Ytmlijnekidihbaa

/-
  A disk of a statement's own: what the calls do, told of the world that the statement began in.
-/
namespace Go.Proofs.Ytmlijnekidihbaa
open Go.RowKit

/-- The disk 'd' lies behind all that 'W' has, and what 'W' has is as it was. -/
def On (W w : World) (p : Nat) (d : PD) : Prop := ∃ g, DiskAt g w p d ∧ Below W.heap.size W w ∧ ∀ k, g.F k → W.heap.size ≤ k

theorem On.below {W w : World} {p : Nat} {d : PD} (h : On W w p d) : Below W.heap.size W w := by obtain ⟨g, _, h2, _⟩ := h; exact h2

theorem on_step {W w w' : World} {p : Nat} {d' : PD} {g g' : Gh} (hb : Below W.heap.size W w) (hF : ∀ k, g.F k → W.heap.size ≤ k) (hd : DiskAt g' w' p d') (hs : Step g g' w w') : On W w' p d' := by
  refine ⟨g', hd, hb.trans (Kept.below hs.touch fun k hk => ⟨?_, fun e => ?_⟩), fun k hk => ?_⟩
  · exact Nat.lt_of_lt_of_le hk hb.size
  · have := hF k e; omega
  · rcases hs.new k hk with h1 | h1
    · exact hF k h1
    · have := hb.size; omega

theorem on_new (W w : World) (hb : Below W.heap.size W w) (room crash names : Int) (done : Bool) (kv : Value) :
    Calls Try.prog 10 #[.agg #[.int .i64 room, .int .i64 crash, .bool done, kv, .int .i64 names]] w fun e w' => ∃ p, e = .returned (.pointer (some ⟨p, 0, none⟩)) ∧ On W w' p (PD.new room crash done) := by
  refine (new_any w room crash names done kv).mono ?_
  rintro e w' ⟨p, rfl, hp, hd, hb2⟩
  refine ⟨p, rfl, Gh.new p, hd, hb.trans (Kept.below (Kept.of hb2 (R := fun k => k < w.heap.size) fun _ h => h) fun k hk => Nat.lt_of_lt_of_le hk hb.size), fun k hk => ?_⟩
  by_cases e : k = p
  · have := hb.size; omega
  · exact absurd (show (if k = p then Role.disk else .out) = .out by rw [if_neg e]) hk

theorem on_make {W w : World} {p : Nat} {d : PD} (h : On W w p d) (hsm : Small d) (hcl : d.calls + 1 < 10000) (s : ByteArray) (hs : s.size ≤ maxLen) (r : Nat) (d' : PD) (he : d.make s.data.toList = (r, d')) :
    Calls Try.prog 44 #[.pointer (some ⟨p, 0, none⟩), .string s] w fun e w' => e = .returned (.int .i64 (r : Int)) ∧ On W w' p d' := by
  obtain ⟨g, h1, h2, h3⟩ := h
  have hm := make_at h1 hsm hcl s hs
  rw [he] at hm
  refine hm.mono ?_
  rintro e w' ⟨rfl, g', k1, k2⟩
  exact ⟨rfl, on_step h2 h3 k1 k2⟩

theorem on_write {W w : World} {p : Nat} {d : PD} (h : On W w p d) (hsm : Small d) (hcl : d.calls + 1 < 10000) (s : ByteArray) (hs : s.size ≤ maxLen) (a : Int) (v : Value) (l : List UInt8) (hrd : RdB W v l) (hll : l.length < 1000000000000) (r : Nat) (d' : PD) (he : d.write s.data.toList a l = (r, d')) :
    Calls Try.prog 26 #[.pointer (some ⟨p, 0, none⟩), .string s, .int .i64 a, v] w fun e w' => e = .returned (.int .i64 (r : Int)) ∧ On W w' p d' := by
  obtain ⟨g, h1, h2, h3⟩ := h
  have hm := write_at h1 hsm hcl s hs a v l (hrd.below h2 (Nat.le_refl _)) hll ?_
  · rw [he] at hm
    refine hm.mono ?_
    rintro e w' ⟨rfl, g', k1, k2⟩
    exact ⟨rfl, on_step h2 h3 k1 k2⟩
  · intro hne k e
    have hk : k < W.heap.size := by
      obtain ⟨b, off, cap, hv, _, _, hb, _⟩ := hrd.cells hne
      rw [hv] at e
      cases e
      exact hb
    cases ho : g.o k with
    | out => rfl
    | _ => exact absurd (h3 k (by unfold Gh.F; rw [ho]; simp)) (by omega)
end Go.Proofs.Ytmlijnekidihbaa

/-
  Size.
-/
namespace Go.Proofs.Ytmlijnekidihbaa
open Go.RowKit

def PD.size (d : PD) (n : List UInt8) : Nat × Bool := match dfind d.names n with
  | none => (0, false)
  | some id => ((d.file id).now.length, true)

set_option maxRecDepth 100000 in
set_option maxHeartbeats 4000000 in
set_option linter.unusedSimpArgs false in
theorem size_at {g : Gh} {w : World} {p : Nat} {d : PD} (h : DiskAt g w p d) (hsm : Small d) (s : ByteArray) (hs : s.size ≤ maxLen) :
    Calls Try.prog 43 #[.pointer (some ⟨p, 0, none⟩), .string s] w fun e w' => e = .returned (.tuple #[.int .i64 ((d.size s.data.toList).1 : Int), .bool (d.size s.data.toList).2]) ∧ w = w' := by
  rcases find_at h s hs hsm.idn with ⟨hf, hcall⟩ | ⟨id, fb, cap, x, f, hf, _, _, _, hff, _, _, hfa, _, c1, _, _, hcall⟩
  · rw [show d.size s.data.toList = (0, false) by unfold PD.size; simp [hf]]
    dsimp only
    have HC := Lib.hid hcall
    have hq := eqf_nil2
    clear hcall hf hsm h
    go_enter Try.func43, Try.ntmps43
    go_wp2_with (go_at_call 34; refine HC.out.mono ?_; rintro e w5 ⟨rfl, rfl⟩)
    go_ret2
    exact ⟨rfl, rfl⟩
  · rw [show d.size s.data.toList = (f.now.length, true) by unfold PD.size PD.file; simp [hf, List.getD_eq_getElem?_getD, hff]]
    dsimp only
    obtain ⟨na, nc, hvn, _, _⟩ := RdB.form hfa.vn.read
    rw [hvn] at c1
    have HC := Lib.hid hcall
    have hq := eqf_nil
    clear hcall hf hsm h hfa hvn hff
    go_enter Try.func43, Try.ntmps43
    go_wp2_with (go_at_call 34; refine HC.out.mono ?_; rintro e w5 ⟨rfl, rfl⟩)
    go_ret2
    exact ⟨rfl, rfl⟩
end Go.Proofs.Ytmlijnekidihbaa

/-
  Move.
-/
namespace Go.Proofs.Ytmlijnekidihbaa
open Go.RowKit

def PD.moves (d : PD) (n m : List UInt8) : PD := { d with names := ren d.names ⟨1, n, m, 0⟩, loose := d.loose ++ [⟨1, n, m, 0⟩] }

def PD.move (d : PD) (n m : List UInt8) : Nat × PD :=
  if d.down then (7, d) else if !nmOk m then (1, d) else match dfind d.names n with
  | none => (2, d)
  | some _ => (d.err, d.after (·.moves n m))

end Go.Proofs.Ytmlijnekidihbaa

/-
  Names.
-/
namespace Go.Proofs.Ytmlijnekidihbaa
open Go.RowKit

def PD.nameSafe (d : PD) : Nat × PD := if d.down then (7, d) else (d.err, d.after PD.settled)

theorem enters_settle : Enters Try.prog 36 := enters_of Try.func36 (by kernel_rfl) rfl

end Go.Proofs.Ytmlijnekidihbaa

/-
  Read, where it tells an error ahead of the place: the disk is down, there is no such file.
-/
namespace Go.Proofs.Ytmlijnekidihbaa
open Go.RowKit

set_option maxRecDepth 100000 in
set_option maxHeartbeats 4000000 in
set_option linter.unusedSimpArgs false in
theorem read_err {g : Gh} {w : World} {p : Nat} {d : PD} (h : DiskAt g w p d) (hsm : Small d) (s : ByteArray) (hs : s.size ≤ maxLen) (a n : Int) (hno : d.down = true ∨ dfind d.names s.data.toList = none) :
    Calls Try.prog 37 #[.pointer (some ⟨p, 0, none⟩), .string s, .int .i64 a, .int .i64 n] w fun e w' => e = .returned (.tuple #[.slice none 0 0, .int .i64 (if d.down then 7 else 2)]) ∧ w = w' := by
  have c4 : w.cell? ⟨p, 4, none⟩ = some (.bool d.down) := blk_cell h.blk
  cases hdn : d.down with
  | true =>
    rw [hdn] at c4
    have HSH := Lib.hid (shut_any w p true c4)
    clear hsm hdn c4 h hno
    go_enter Try.func37, Try.ntmps37
    go_wp2_with (go_at_call 47; refine HSH.out.mono ?_; rintro e w5 ⟨rfl, rfl⟩)
    go_ret2
    exact ⟨rfl, rfl⟩
  | false =>
    rw [hdn] at c4
    have HSH := Lib.hid (shut_any w p false c4)
    rcases find_at h s hs hsm.idn with ⟨hf, hcall⟩ | ⟨id, fb, cap, x, f, hf, _⟩
    · have HC := Lib.hid hcall
      have hq := eqf_nil2
      clear hcall hf hsm hdn c4 h hno
      go_enter Try.func37, Try.ntmps37
      go_wp2_with (first | (go_at_call 47; refine HSH.out.mono ?_; rintro e w5 ⟨rfl, rfl⟩) | (go_at_call 34; refine HC.out.mono ?_; rintro e w5 ⟨rfl, rfl⟩))
      go_ret2
      exact ⟨rfl, rfl⟩
    · rcases hno with e | e
      · rw [hdn] at e; cases e
      · rw [hf] at e; cases e
end Go.Proofs.Ytmlijnekidihbaa

/-
  Read.
-/
namespace Go.Proofs.Ytmlijnekidihbaa
open Go.RowKit

def PD.read (d : PD) (n : List UInt8) (a k : Int) : List UInt8 × Nat :=
  if d.down then ([], 7) else match dfind d.names n with
  | none => ([], 2)
  | some id => if a < 0 ∨ ((d.file id).now.length : Int) < a ∨ k < 0 then ([], 1) else (((d.file id).now.drop a.toNat).take k.toNat, 0)

set_option maxRecDepth 100000 in
set_option maxHeartbeats 4000000 in
set_option linter.unusedSimpArgs false in
theorem read_at2 {g : Gh} {w : World} {p : Nat} {d : PD} (h : DiskAt g w p d) (hsm : Small d) (s : ByteArray) (hs : s.size ≤ maxLen) (a n : Int) :
    Calls Try.prog 37 #[.pointer (some ⟨p, 0, none⟩), .string s, .int .i64 a, .int .i64 n] w fun e w' => ∃ v, e = .returned (.tuple #[v, .int .i64 ((d.read s.data.toList a n).2 : Int)]) ∧ Below w.heap.size w w' ∧ OwnB w' 0 5 v (d.read s.data.toList a n).1 ∧ (∀ k, v.ownBlock = some k → w.heap.size ≤ k) := by
  by_cases hno : d.down = true ∨ dfind d.names s.data.toList = none
  · have e1 : d.read s.data.toList a n = ([], if d.down then 7 else 2) := by
      unfold PD.read
      cases hd : d.down with
      | true => rfl
      | false =>
        rcases hno with h | h
        · rw [hd] at h; cases h
        · rw [h]; rfl
    rw [e1]
    refine (read_err h hsm s hs a n hno).mono ?_
    rintro e w' ⟨rfl, rfl⟩
    refine ⟨_, ?_, Below.refl _ _, OwnB.nil _ _ _, fun k e => (nomatch e)⟩
    cases d.down <;> rfl
  · have hdn : d.down = false := by
      cases hd : d.down with
      | true => exact absurd (.inl hd) hno
      | false => rfl
    have c4 : w.cell? ⟨p, 4, none⟩ = some (.bool d.down) := blk_cell h.blk
    rw [hdn] at c4
    have HSH := Lib.hid (shut_any w p false c4)
    rcases find_at h s hs hsm.idn with ⟨hf, _⟩ | ⟨id, fb, cap, x, f, hf, _, _, _, hff, _, _, hfa, _, c1, _, _, hcall⟩
    · exact absurd (.inr hf) hno
    · have e1 : d.read s.data.toList a n = if a < 0 ∨ (f.now.length : Int) < a ∨ n < 0 then ([], 1) else ((f.now.drop a.toNat).take n.toNat, 0) := by
        unfold PD.read PD.file
        simp [hdn, hf, List.getD_eq_getElem?_getD, hff]
      have hv := hfa.vn.read
      obtain ⟨na, nc, hvn, hnc1, hnc2⟩ := RdB.form hv
      rw [hvn] at c1 hv
      have hq := eqf_nil
      have hflen := (hsm.fl f (List.mem_of_getElem? hff)).2.1
      have HC := Lib.hid hcall
      have HV := Lib.hid hv
      clear hcall hf hsm h hfa hvn hff c4 hno hdn hv
      by_cases hbad : a < 0 ∨ (f.now.length : Int) < a ∨ n < 0
      · rw [if_pos hbad] at e1
        rw [e1]
        by_cases q1 : a < 0
        · clear hbad e1
          go_enter Try.func37, Try.ntmps37
          go_wp2_with (first | (go_at_call 47; refine HSH.out.mono ?_; rintro e w5 ⟨rfl, rfl⟩) | (go_at_call 34; refine HC.out.mono ?_; rintro e w5 ⟨rfl, rfl⟩))
          go_ret2
          exact ⟨_, rfl, Below.refl _ _, OwnB.nil _ _ _, fun k e => (nomatch e)⟩
        · by_cases q2 : (f.now.length : Int) < a
          · clear hbad e1
            go_enter Try.func37, Try.ntmps37
            go_wp2_with (first | (go_at_call 47; refine HSH.out.mono ?_; rintro e w5 ⟨rfl, rfl⟩) | (go_at_call 34; refine HC.out.mono ?_; rintro e w5 ⟨rfl, rfl⟩))
            go_ret2
            exact ⟨_, rfl, Below.refl _ _, OwnB.nil _ _ _, fun k e => (nomatch e)⟩
          · have q3 : n < 0 := by omega
            clear hbad e1
            go_enter Try.func37, Try.ntmps37
            go_wp2_with (first | (go_at_call 47; refine HSH.out.mono ?_; rintro e w5 ⟨rfl, rfl⟩) | (go_at_call 34; refine HC.out.mono ?_; rintro e w5 ⟨rfl, rfl⟩))
            go_ret2
            exact ⟨_, rfl, Below.refl _ _, OwnB.nil _ _ _, fun k e => (nomatch e)⟩
      · rw [if_neg hbad] at e1
        rw [e1]
        obtain ⟨i, rfl⟩ := Int.eq_ofNat_of_zero_le (show 0 ≤ a by omega)
        obtain ⟨c, rfl⟩ := Int.eq_ofNat_of_zero_le (show 0 ≤ n by omega)
        have hil : i ≤ f.now.length := by omega
        obtain ⟨m, hm⟩ : ∃ m : Nat, m = min c (f.now.length - i) := ⟨_, rfl⟩
        have hmi : min (c : Int) ((f.now.length - i : Nat) : Int) = (m : Int) := by omega
        have htk : (f.now.drop i).take c = (f.now.drop i).take m := by
          rw [hm, ← List.length_drop, ← List.take_take, List.take_length]
        show Calls _ _ _ _ fun e w' => ∃ v, e = .returned (.tuple #[v, .int .i64 0]) ∧ Below w.heap.size w w' ∧ OwnB w' 0 5 v ((f.now.drop i).take c) ∧ (∀ k, v.ownBlock = some k → w.heap.size ≤ k)
        rw [htk]
        have hml : m ≤ f.now.length - i := by omega
        have hlm : ((f.now.drop i).take m).length = m := by rw [List.length_take, List.length_drop]; omega
        have h1 : ¬ ((i : Int) < 0) := by omega
        have h2 : ¬ ((f.now.length : Int) < (i : Int)) := by omega
        have h3 : ¬ ((c : Int) < 0) := by omega
        clear hbad e1 hm htk
        go_enter Try.func37, Try.ntmps37
        go_wp2_with (first | (go_at_call 47; refine HSH.out.mono ?_; rintro e w5 ⟨rfl, rfl⟩) | (go_at_call 34; refine HC.out.mono ?_; rintro e w5 ⟨rfl, rfl⟩))
        · have hm0 : m = 0 := by omega
          subst hm0
          refine (clone_bytes w _ 0 [] (show Rd w 1 (.slice na 0 0) 0 [] from ⟨na, 0, rfl, Nat.le_refl _, Nat.zero_le _, rfl, .inl ⟨rfl, fun _ => rfl⟩⟩) (by simp) (by omega)).mono ?_
          rintro e w5 ⟨v', rfl, hrow, hb, hvb⟩
          have HR := Lib.hid hrow
          clear hrow
          go_wp2
          go_ret2
          exact ⟨v', rfl, hb, by rw [List.take_zero]; exact HR.out, fun k e => (hvb k e).1⟩
        · refine (clone_bytes w _ m (((f.now.drop i).take m).map bv) (sub_rd HV.out i m hil hml) (bv_oneCell _) (by omega)).mono ?_
          rintro e w5 ⟨v', rfl, hrow, hb, hvb⟩
          have HR := Lib.hid hrow
          clear hrow
          go_wp2
          go_ret2
          refine ⟨v', rfl, hb, ?_, fun k e => (hvb k e).1⟩
          unfold OwnB
          rw [hlm]
          exact HR.out

theorem read_at {g : Gh} {w : World} {p : Nat} {d : PD} (h : DiskAt g w p d) (hsm : Small d) (s : ByteArray) (hs : s.size ≤ maxLen) (a n : Int) :
    Calls Try.prog 37 #[.pointer (some ⟨p, 0, none⟩), .string s, .int .i64 a, .int .i64 n] w fun e w' => ∃ v, e = .returned (.tuple #[v, .int .i64 ((d.read s.data.toList a n).2 : Int)]) ∧ Below w.heap.size w w' ∧ RdB w' v (d.read s.data.toList a n).1 ∧ (∀ k, v.ownBlock = some k → w.heap.size ≤ k) := by
  refine (read_at2 h hsm s hs a n).mono ?_
  rintro e w' ⟨v, rfl, h1, h2, h3⟩
  exact ⟨v, rfl, h1, h2.read, h3⟩
end Go.Proofs.Ytmlijnekidihbaa

/-
  A disk of a statement's own: the calls that XDiskOn has not; bytes that were told and are held.
-/
namespace Go.Proofs.Ytmlijnekidihbaa
open Go.RowKit

theorem on_wrote {W w : World} {p : Nat} {g : Gh} {r : Nat × PD} (hb : Below W.heap.size W w) (hF : ∀ k, g.F k → W.heap.size ≤ k) {f : Nat} {args : Array Value} (h : Calls Try.prog f args w (Wrote g w p r)) : Calls Try.prog f args w fun e w' => e = .returned (.int .i64 (r.1 : Int)) ∧ On W w' p r.2 := by
  refine h.mono ?_
  rintro e w' ⟨rfl, g', k1, k2⟩
  exact ⟨rfl, on_step hb hF k1 k2⟩

theorem on_safe {W w : World} {p : Nat} {d : PD} (h : On W w p d) (hsm : Small d) (hcl : d.calls + 1 < 10000) (s : ByteArray) (hs : s.size ≤ maxLen) (r : Nat) (d' : PD) (he : d.makeSafe s.data.toList = (r, d')) :
    Calls Try.prog 29 #[.pointer (some ⟨p, 0, none⟩), .string s] w fun e w' => e = .returned (.int .i64 (r : Int)) ∧ On W w' p d' := by
  obtain ⟨g, h1, h2, h3⟩ := h
  have hm := safe_at h1 hsm hcl s hs
  rw [he] at hm
  refine hm.mono ?_
  rintro e w' ⟨rfl, g', k1, k2⟩
  exact ⟨rfl, on_step h2 h3 k1 k2⟩

theorem on_size {W w : World} {p : Nat} {d : PD} (h : On W w p d) (hsm : Small d) (s : ByteArray) (hs : s.size ≤ maxLen) (n : Nat) (ok : Bool) (he : d.size s.data.toList = (n, ok)) :
    Calls Try.prog 43 #[.pointer (some ⟨p, 0, none⟩), .string s] w fun e w' => e = .returned (.tuple #[.int .i64 (n : Int), .bool ok]) ∧ w = w' := by
  obtain ⟨g, h1, h2, h3⟩ := h
  have hm := size_at h1 hsm s hs
  rw [he] at hm
  exact hm

theorem on_down {W w : World} {p : Nat} {d : PD} (h : On W w p d) : Calls Try.prog 20 #[.pointer (some ⟨p, 0, none⟩)] w fun e w' => e = .returned (.bool d.down) ∧ w = w' := by
  obtain ⟨g, h1, _⟩ := h
  exact down_any w p d.down (blk_cell h1.blk)

/-- .. and the bytes 'l', that were told, can be read. -/
def OnR (W w : World) (p : Nat) (d : PD) (v : Value) (l : List UInt8) : Prop := ∃ g, DiskAt g w p d ∧ Below W.heap.size W w ∧ (∀ k, g.F k → W.heap.size ≤ k) ∧ RdB w v l ∧ (l ≠ [] → ∀ k, v.ownBlock = some k → ¬ g.F k)

theorem OnR.on {W w : World} {p : Nat} {d : PD} {v : Value} {l : List UInt8} (h : OnR W w p d v l) : On W w p d := by
  obtain ⟨g, h1, h2, h3, _⟩ := h
  exact ⟨g, h1, h2, h3⟩
theorem OnR.rd {W w : World} {p : Nat} {d : PD} {v : Value} {l : List UInt8} (h : OnR W w p d v l) : RdB w v l := by
  obtain ⟨g, _, _, _, h, _⟩ := h
  exact h

theorem RdB.blk_lt {w : World} {v : Value} {l : List UInt8} (h : RdB w v l) (hne : l ≠ []) : ∀ k, v.ownBlock = some k → k < w.heap.size := by
  intro k e
  obtain ⟨a, cap, rfl, h1, h2, h0, h3⟩ := h
  rcases h3 with h3 | ⟨b, off, rfl, h4, h5⟩
  · exact absurd (List.eq_nil_of_length_eq_zero h3.1) hne
  · cases e; exact h4

theorem onr_step {W w w' : World} {p : Nat} {d' : PD} {g g' : Gh} {v : Value} {l : List UInt8} (hb : Below W.heap.size W w) (hF : ∀ k, g.F k → W.heap.size ≤ k) (hr : RdB w v l) (hv : l ≠ [] → ∀ k, v.ownBlock = some k → ¬ g.F k) (hd : DiskAt g' w' p d') (hs : Step g g' w w') : OnR W w' p d' v l := by
  obtain ⟨g2, h1, h2, h3⟩ := on_step hb hF hd hs
  refine ⟨g', hd, ?_, ?_, ?_, ?_⟩
  · exact h2
  · intro k hk
    rcases hs.new k hk with h | h
    · exact hF k h
    · have := hb.size; omega
  · exact rdB_kept hr hs.touch fun hne k e hk => ⟨hk, hv hne k e⟩
  · intro hne k e hk
    rcases hs.new k hk with h | h
    · exact hv hne k e h
    · have := hr.blk_lt hne k e; omega

theorem on_read {W w : World} {p : Nat} {d : PD} (h : On W w p d) (hsm : Small d) (s : ByteArray) (hs : s.size ≤ maxLen) (a n : Int) (l : List UInt8) (r : Nat) (he : d.read s.data.toList a n = (l, r)) :
    Calls Try.prog 37 #[.pointer (some ⟨p, 0, none⟩), .string s, .int .i64 a, .int .i64 n] w fun e w' => ∃ va vc, e = .returned (.tuple #[.slice va l.length vc, .int .i64 (r : Int)]) ∧ OnR W w' p d (.slice va l.length vc) l := by
  obtain ⟨g, h1, h2, h3⟩ := h
  have hm := read_at h1 hsm s hs a n
  rw [he] at hm
  refine hm.mono ?_
  rintro e w' ⟨v, rfl, k1, k2, k3⟩
  obtain ⟨va, vc, rfl, _, _⟩ := RdB.form k2
  exact ⟨va, vc, rfl, g, h1.below k1, h2.trans (k1.mono h2.size), h3, k2, fun _ k e hF => by have := k3 k e; have := h1.olt k hF; omega⟩

/-- A Read while other bytes are held. -/
theorem onr_read {W w : World} {p : Nat} {d : PD} {vh : Value} {lh : List UInt8} (h : OnR W w p d vh lh) (hsm : Small d) (s : ByteArray) (hs : s.size ≤ maxLen) (a n : Int) (l : List UInt8) (r : Nat) (he : d.read s.data.toList a n = (l, r)) :
    Calls Try.prog 37 #[.pointer (some ⟨p, 0, none⟩), .string s, .int .i64 a, .int .i64 n] w fun e w' => ∃ va vc, e = .returned (.tuple #[.slice va l.length vc, .int .i64 (r : Int)]) ∧ OnR W w' p d vh lh ∧ RdB w' (.slice va l.length vc) l := by
  obtain ⟨g, h1, h2, h3, hr, hv⟩ := h
  have hm := read_at h1 hsm s hs a n
  rw [he] at hm
  refine hm.mono ?_
  rintro e w' ⟨v, rfl, k1, k2, k3⟩
  obtain ⟨va, vc, rfl, _, _⟩ := RdB.form k2
  exact ⟨va, vc, rfl, ⟨g, h1.below k1, h2.trans (k1.mono h2.size), h3, hr.below k1 (Nat.le_refl _), hv⟩, k2⟩

theorem on_fallR {W w : World} {p : Nat} {d : PD} {vh : Value} {lh : List UInt8} (h : OnR W w p d vh lh) (w2 : World) (hb : Below w.heap.size w w2) (room crash names : Int) (done : Bool) (kv : Value) (keep : List Int) (hnn : (Lit.int .i64 names).wf = true) (hkw : ∀ v ∈ keep, (Lit.int .i64 v).wf = true) (hkl : keep.length < 1000000)
    (hkv : (kv = .slice none 0 0 ∧ keep = []) ∨ ∃ kb cap, kv = .slice (some ⟨kb, 0, none⟩) keep.length cap ∧ 0 < keep.length ∧ w.heap.size ≤ kb ∧ kb < w2.heap.size ∧ ∀ (i : Nat) (v : Int), keep[i]? = some v → w2.cell? ⟨kb, i, none⟩ = some (.int .i64 v))
    (hsm : ∀ k, Small (d.redone k)) (hsm2 : ∀ k, Small ((d.redone (rest names d.loose.length)).fell keep k)) (hnd : ((d.redone (rest names d.loose.length)).names.map (·.2)).Nodup) (d' : PD)
    (hd' : (((d.redone (rest names d.loose.length)).fell keep (d.redone (rest names d.loose.length)).names.length).settled).begun room crash done = d') :
    Calls Try.prog 16 #[.pointer (some ⟨p, 0, none⟩), .agg #[.int .i64 room, .int .i64 crash, .bool done, kv, .int .i64 names]] w2 fun e w' => e = .returned (.tuple #[]) ∧ OnR W w' p d' vh lh := by
  obtain ⟨g, h1, h2, h3, hr, hv⟩ := h
  have hi : IntsAt g w2 kv keep := by
    rcases hkv with h | ⟨kb, cap, e1, e2, e3, e4, e5⟩
    · exact .inl ⟨_, _, h.1, h.2⟩
    · exact .inr ⟨kb, 0, cap, e1, e2, e4, fun hF => by have := h1.olt kb hF; omega, fun i v hv => by rw [Nat.zero_add]; exact e5 i v hv⟩
  have hm := fall_at (h1.below hb) room crash names done kv keep hnn hkw hkl hi hsm hsm2 hnd
  rw [hd'] at hm
  refine hm.mono ?_
  rintro e w' ⟨rfl, g', k1, k2⟩
  exact ⟨rfl, onr_step (h2.trans (hb.mono h2.size)) h3 (hr.below hb (Nat.le_refl _)) hv k1 k2⟩

theorem On.toR {W w : World} {p : Nat} {d : PD} (h : On W w p d) : OnR W w p d (.slice none 0 0) [] := by
  obtain ⟨g, h1, h2, h3⟩ := h
  exact ⟨g, h1, h2, h3, Rd.nil _ _, fun h => absurd rfl h⟩
end Go.Proofs.Ytmlijnekidihbaa

/-
  The walk of the statement DiskFull.
-/
namespace Go.Proofs.Ytmlijnekidihbaa
open Go.RowKit

def fw (l : List UInt8) : PF := ⟨[], wr [] 0 l, [(0, l)]⟩
def fS (r : Int) (c : Nat) (fa fb : PF) : PD := ⟨r, 0, false, c, false, [fa, fb], [([97], 0), ([98], 1)], [], [⟨0, [], [97], 0⟩, ⟨0, [], [98], 1⟩]⟩
def fT (r : Int) (c : Nat) (fa fb : PF) : PD := ⟨r, 0, false, c, false, [fa, fb], [([98], 1)], [], [⟨0, [], [97], 0⟩, ⟨0, [], [98], 1⟩, ⟨2, [97], [], 0⟩]⟩
def f1 (r : Int) : PD := ⟨r, 0, false, 1, false, [PF.new], [([97], 0)], [], [⟨0, [], [97], 0⟩]⟩

theorem fw_len (l : List UInt8) : (fw l).now.length = l.length := by simp [fw, wr]

theorem f_make1 (r : Int) : (PD.new r 0 false).make [97] = (0, f1 r) := by kernel_rfl
theorem f_make2 (r : Int) : (f1 r).make [98] = (0, fS r 2 PF.new PF.new) := by kernel_rfl
theorem no_crash {d : PD} (h : d.crash = 0) : d.dn = false := by
  unfold PD.dn
  rw [h]
  exact decide_eq_false (by omega)
theorem err_none {d : PD} (h : d.crash = 0) : d.err = 0 := by unfold PD.err; rw [no_crash h]; rfl
theorem after_none {d : PD} (h : d.crash = 0) (f : PD → PD) : d.after f = f { d with calls := d.calls + 1, down := false } := by unfold PD.after PD.isdo PD.cnt; rw [no_crash h]; rfl

/-- A write from the beginning of a file on, of a disk that is up. -/
theorem write_zero {d : PD} {n : List UInt8} {id u : Nat} {l : List UInt8} (hd : d.down = false) (hc : d.crash = 0) (hf : dfind d.names n = some id) (hu : d.used = u) (hl : l.length ≤ 300) :
    d.write n 0 l = if d.room < (u : Int) + max 0 ((l.length : Int) - ((d.file id).now.length : Int)) then (6, d) else (0, { d with calls := d.calls + 1, down := false, files := d.files.set id ((d.file id).wrote 0 l) }) := by
  unfold PD.write
  rw [hf, hu, hd, if_neg (by simp)]
  dsimp only
  rw [if_neg (by omega), if_neg (by omega), Int.zero_add, err_none hc, after_none hc]
  rfl

theorem f_writeA (r : Int) (la : List UInt8) (hl : la.length ≤ 300) : (fS r 2 PF.new PF.new).write [97] 0 la = if (la.length : Int) ≤ r then (0, fS r 3 (fw la) PF.new) else (6, fS r 2 PF.new PF.new) := by
  have e1 : dfind (fS r 2 PF.new PF.new).names [97] = some 0 := by kernel_rfl
  have e2 : (fS r 2 PF.new PF.new).used = 0 := by kernel_rfl
  rw [write_zero rfl rfl e1 e2 hl]
  have e3 : (((fS r 2 PF.new PF.new).file 0).now.length : Int) = 0 := rfl
  have e4 : (fS r 2 PF.new PF.new).room = r := rfl
  rw [e3, e4]
  by_cases h : (la.length : Int) ≤ r
  · rw [if_neg (by omega), if_pos h]
    rfl
  · rw [if_pos (by omega), if_neg h]

theorem f_writeB (r : Int) (c u : Nat) (fa : PF) (hu : fa.now.length = u) (lb : List UInt8) (hl : lb.length ≤ 300) : (fS r c fa PF.new).write [98] 0 lb = if (u : Int) + (lb.length : Int) ≤ r then (0, fS r (c + 1) fa (fw lb)) else (6, fS r c fa PF.new) := by
  have e1 : dfind (fS r c fa PF.new).names [98] = some 1 := by kernel_rfl
  have e2 : (fS r c fa PF.new).used = u := by rw [← hu]; rfl
  rw [write_zero rfl rfl e1 e2 hl]
  have e3 : (((fS r c fa PF.new).file 1).now.length : Int) = 0 := rfl
  have e4 : (fS r c fa PF.new).room = r := rfl
  rw [e3, e4]
  by_cases h : (u : Int) + (lb.length : Int) ≤ r
  · rw [if_neg (by omega), if_pos h]
    rfl
  · rw [if_pos (by omega), if_neg h]

theorem f_gone (r : Int) (c : Nat) (fa fb : PF) : (fS r c fa fb).gone [97] = (0, fT r (c + 1) fa fb) := by
  have e1 : dfind (fS r c fa fb).names [97] = some 0 := by kernel_rfl
  unfold PD.gone
  rw [e1, err_none rfl, after_none rfl]
  rfl

theorem f_writeG (r : Int) (c : Nat) (fa fb : PF) (lb : List UInt8) (hl : lb.length ≤ 300) (hv : fb.now.length = 0 ∨ fb.now.length = lb.length) : ∃ d', (fT r c fa fb).write [98] 0 lb = (if (lb.length : Int) ≤ r then 0 else 6, d') := by
  have e1 : dfind (fT r c fa fb).names [98] = some 1 := by kernel_rfl
  have e2 : (fT r c fa fb).used = fb.now.length := by show fb.now.length + 0 = _; omega
  rw [write_zero rfl rfl e1 e2 hl]
  have e3 : (((fT r c fa fb).file 1).now.length : Int) = fb.now.length := rfl
  have e4 : (fT r c fa fb).room = r := rfl
  rw [e3, e4]
  by_cases h : (lb.length : Int) ≤ r
  · rw [if_neg (by omega), if_pos h]
    exact ⟨_, rfl⟩
  · rw [if_pos (by omega), if_neg h]
    exact ⟨_, rfl⟩

def FOk (f : PF) : Prop := f.safe.length < 2000000 ∧ f.now.length < 2000000 ∧ f.loose.length < 10000 ∧ manyL f.loose < 900000000 ∧ WOk f.safe f.loose ∧ ∀ left, (kept f.loose left f.safe).length < 2000000
theorem fok_new : FOk PF.new := ⟨by decide, by decide, by decide, by decide, trivial, fun left => by simp [PF.new, kept]⟩
theorem fok_fw (l : List UInt8) (hl : l.length ≤ 300) : FOk (fw l) := by
  refine ⟨by simp [fw], by rw [fw_len]; omega, by simp [fw], by simp [fw, manyL]; omega, ⟨Nat.zero_le _, trivial⟩, fun left => ?_⟩
  simp only [fw, kept]
  split
  · simp
  · simp [wr]; omega
theorem fs_ch : ∀ c ∈ [(⟨0, [], [97], 0⟩ : PC), ⟨0, [], [98], 1⟩, ⟨2, [97], [], 0⟩], ChOk c := by
  intro c hc
  simp only [List.mem_cons, List.not_mem_nil, or_false] at hc
  rcases hc with rfl | rfl | rfl <;> exact ⟨by decide, by decide, by decide, by decide⟩
theorem f0_small (r : Int) : Small (PD.new r 0 false) := ⟨by simp [PD.new], by simp [PD.new], by simp [PD.new], by simp [PD.new], by simp [PD.new], by simp [PD.new], by simp [PD.new], by simp [PD.new], by simp [PD.new], by simp [PD.new], by simp [PD.new]⟩
theorem f1_small (r : Int) : Small (f1 r) := ⟨by simp [f1], by simp [f1], by simp [f1], by simp [f1], by simp [f1], by simp [f1], by simp [f1], fun c hc => fs_ch c (by simp [f1] at hc; simp [hc]), fun f hf => by simp [f1] at hf; subst hf; exact fok_new, by simp [f1], by simp [f1]⟩
theorem fS_small (r : Int) (c : Nat) (fa fb : PF) (hc : c < 100) (ha : FOk fa) (hb : FOk fb) : Small (fS r c fa fb) := ⟨by simp [fS], by simp [fS], by simp [fS], by simp [fS], by simp [fS]; omega, by simp [fS], by simp [fS], fun c hc => fs_ch c (by simp [fS] at hc; rcases hc with rfl | rfl <;> simp), fun f hf => by simp [fS] at hf; rcases hf with rfl | rfl; exact ha; exact hb, by simp [fS], by simp [fS]⟩
theorem fT_small (r : Int) (c : Nat) (fa fb : PF) (hc : c < 100) (ha : FOk fa) (hb : FOk fb) : Small (fT r c fa fb) := ⟨by simp [fT], by simp [fT], by simp [fT], by simp [fT], by simp [fT]; omega, by simp [fT], by simp [fT], fun c hc => fs_ch c hc, fun f hf => by simp [fT] at hf; rcases hf with rfl | rfl; exact ha; exact hb, by simp [fT], by simp [fT]⟩
end Go.Proofs.Ytmlijnekidihbaa

/-
  What the statements on disks share: sizes of files with few writes, calls of a disk that does not crash.
-/
namespace Go.Proofs.Ytmlijnekidihbaa
open Go.RowKit

theorem kept_len : ∀ (l : List (Nat × List UInt8)) (left : Nat) (b : List UInt8), WOk b l → (kept l left b).length ≤ b.length + manyL l
  | [], _, b, _ => by simp [kept]
  | p :: r, left, b, h => by
    obtain ⟨h1, h2⟩ := h
    by_cases h0 : left = 0
    · rw [h0, kept_zero]; omega
    · rw [kept_cons p r left b h0]
      have key : ∀ q : List UInt8, q.length ≤ p.2.length → (wr b p.1 q).length ≤ b.length + p.2.length := by
        intro q hq
        rw [wr_length b q p.1 h1]; omega
      have hm : manyL (p :: r) = p.2.length + manyL r := by simp [manyL]
      by_cases hl : p.2.length ≤ left
      · rw [List.take_of_length_le hl]
        have := kept_len r (left - p.2.length) (wr b p.1 p.2) h2
        have := key p.2 (Nat.le_refl _)
        omega
      · rw [show left - p.2.length = 0 by omega, kept_zero]
        have := key (p.2.take left) (by rw [List.length_take]; omega)
        omega

theorem fok_of {f : PF} (h1 : f.safe.length + manyL f.loose < 1000000) (h2 : f.now.length < 1000000) (h3 : f.loose.length < 10000) (h4 : WOk f.safe f.loose) : FOk f :=
  ⟨by omega, by omega, h3, by omega, h4, fun left => by have := kept_len f.loose left f.safe h4; omega⟩

theorem wok_append : ∀ (l : List (Nat × List UInt8)) (b : List UInt8) (p : Nat × List UInt8), WOk b l → p.1 ≤ (l.foldl (fun b p => wr b p.1 p.2) b).length → WOk b (l ++ [p])
  | [], _, _, _, h => ⟨h, trivial⟩
  | _ :: r, _, p, h, hp => ⟨h.1, wok_append r _ p h.2 hp⟩

/-- A write from a place on, of a disk that is up and does not crash. -/
theorem write_in {d : PD} {n : List UInt8} {id u : Nat} {a : Nat} {l : List UInt8} (hd : d.down = false) (hc : d.crash = 0) (hf : dfind d.names n = some id) (hu : d.used = u) (ha : a ≤ (d.file id).now.length) (hl : a + l.length ≤ 1048576) (hr : (u : Int) + max 0 ((a : Int) + (l.length : Int) - ((d.file id).now.length : Int)) ≤ d.room) :
    d.write n (a : Int) l = (0, { d with calls := d.calls + 1, down := false, files := d.files.set id ((d.file id).wrote a l) }) := by
  unfold PD.write
  rw [hf, hu, hd, if_neg (by simp)]
  dsimp only
  rw [if_neg (by omega), if_neg (by omega), if_neg (by omega), err_none hc, after_none hc]
  rfl
theorem write_out {d : PD} {n : List UInt8} {id : Nat} {a : Int} {l : List UInt8} (hd : d.down = false) (hf : dfind d.names n = some id) (ha : a < 0 ∨ ((d.file id).now.length : Int) < a) : d.write n a l = (1, d) := by
  unfold PD.write
  rw [hf, hd, if_neg (by simp)]
  dsimp only
  rw [if_pos ha]

theorem on_write_new {W w w2 : World} {p : Nat} {d : PD} (h : On W w p d) (hb : Below w.heap.size w w2) (hsm : Small d) (hcl : d.calls + 1 < 10000) (s : ByteArray) (hs : s.size ≤ maxLen) (a : Int) (v : Value) (l : List UInt8) (hrd : RdB w2 v l) (hll : l.length < 1000000000000) (ov : l ≠ [] → ∀ k, v.ownBlock = some k → w.heap.size ≤ k ∨ k < W.heap.size) (r : Nat) (d' : PD) (he : d.write s.data.toList a l = (r, d')) :
    Calls Try.prog 26 #[.pointer (some ⟨p, 0, none⟩), .string s, .int .i64 a, v] w2 fun e w' => e = .returned (.int .i64 (r : Int)) ∧ On W w' p d' := by
  obtain ⟨g, h1, h2, h3⟩ := h
  have hm := write_at (h1.below hb) hsm hcl s hs a v l hrd hll ?_
  · rw [he] at hm
    exact on_wrote (h2.trans (hb.mono h2.size)) h3 hm
  · intro hne k e
    cases ho : g.o k with
    | out => rfl
    | _ =>
      have hF : g.F k := by unfold Gh.F; rw [ho]; simp
      have := h1.olt k hF
      have := h3 k hF
      rcases ov hne k e with h | h <;> omega

/-- One file 'x'. -/
def x1 (R : Int) (c : Nat) (f : PF) (sf : DB) (ls : List PC) : PD := ⟨R, 0, false, c, false, [f], [([120], 0)], sf, ls⟩
def mkx : PC := ⟨0, [], [120], 0⟩
def sfx (b : Bool) : DB := if b then [([120], 0)] else []
def lsx (b : Bool) : List PC := if b then [mkx] else []
theorem mkx_ok : ChOk mkx := ⟨by decide, by decide, by decide, by decide⟩
theorem x1_small (R : Int) (c : Nat) (f : PF) (b1 b2 : Bool) (hc : c < 100) (hf : FOk f) : Small (x1 R c f (sfx b1) (lsx b2)) := by
  refine ⟨by simp [x1], by cases b2 <;> simp [x1, lsx], by simp [x1], by cases b1 <;> simp [x1, sfx], by simp [x1]; omega, by simp [x1], by cases b1 <;> simp [x1, sfx], ?_, fun g hg => by simp [x1] at hg; subst hg; exact hf, by simp [x1], by cases b1 <;> simp [x1, sfx]⟩
  intro c hc
  cases b2
  · simp [x1, lsx] at hc
  · simp [x1, lsx] at hc; subst hc; exact mkx_ok
theorem x1_make (R : Int) : (PD.new R 0 false).make [120] = (0, x1 R 1 PF.new (sfx false) (lsx true)) := by kernel_rfl
theorem x1_used (R : Int) (c : Nat) (f : PF) (sf : DB) (ls : List PC) : (x1 R c f sf ls).used = f.now.length := by show f.now.length + 0 = _; omega
theorem x1_find (R : Int) (c : Nat) (f : PF) (sf : DB) (ls : List PC) : dfind (x1 R c f sf ls).names [120] = some 0 := by kernel_rfl
theorem x1_write (R : Int) (c : Nat) (f : PF) (sf : DB) (ls : List PC) (a : Nat) (l : List UInt8) (ha : a ≤ f.now.length) (hl : a + l.length ≤ 1048576) (hr : (f.now.length : Int) + (l.length : Int) ≤ R) : (x1 R c f sf ls).write [120] (a : Int) l = (0, x1 R (c + 1) (f.wrote a l) sf ls) := by
  rw [write_in (id := 0) (u := f.now.length) rfl rfl (x1_find ..) (x1_used ..) ha hl (by show (f.now.length : Int) + max 0 ((a : Int) + (l.length : Int) - (f.now.length : Int)) ≤ R; omega)]
  rfl
theorem x1_read (R : Int) (c : Nat) (f : PF) (sf : DB) (ls : List PC) (a n : Int) : (x1 R c f sf ls).read [120] a n = if a < 0 ∨ (f.now.length : Int) < a ∨ n < 0 then ([], 1) else ((f.now.drop a.toNat).take n.toNat, 0) := by
  unfold PD.read
  rw [x1_find]
  rfl
theorem x1_size (R : Int) (c : Nat) (f : PF) (sf : DB) (ls : List PC) : (x1 R c f sf ls).size [120] = (f.now.length, true) := by
  unfold PD.size
  rw [x1_find]
  rfl
theorem rd_const1 (w : World) (c : UInt8) : RdB (w.alloc (.cells #[bv c] 5 (1, 2))) (.slice (some ⟨w.heap.size, 0, none⟩) 1 1) [c] :=
  ⟨_, 1, rfl, Nat.le_refl _, by unfold maxLen; omega, rfl, .inr ⟨w.heap.size, 0, rfl, by simp, fun j u hj => by rw [Nat.zero_add, World.cell?_alloc_mark]; simpa using hj⟩⟩
end Go.Proofs.Ytmlijnekidihbaa

/-
  More of what the statements on disks share: sizes checked by reckoning; a fall.
-/
namespace Go.Proofs.Ytmlijnekidihbaa
open Go.RowKit

def chB (c : PC) : Bool := decide (c.kind ≤ 2) && decide (c.src.length < 1000) && decide (c.dst.length < 1000) && decide (c.file < 1000)
/-- What is asked of a disk's sizes but for its files' bytes. -/
def smB (d : PD) : Bool := decide (d.files.length < 1000) && decide (d.loose.length < 1000) && decide (d.names.length < 1000) && decide (d.safe.length < 1000) && decide (d.calls < 1000) &&
  d.names.all (fun x => decide (x.2 < d.files.length) && decide (x.1.length < 1000)) && d.safe.all (fun x => decide (x.2 < d.files.length) && decide (x.1.length < 1000)) && d.loose.all chB

theorem small_of {d : PD} (h : smB d = true) (hf : ∀ f ∈ d.files, FOk f) : Small d := by
  unfold smB at h
  simp only [Bool.and_eq_true, decide_eq_true_eq, List.all_eq_true] at h
  obtain ⟨⟨⟨⟨⟨⟨⟨h1, h2⟩, h3⟩, h4⟩, h5⟩, h6⟩, h7⟩, h8⟩ := h
  refine ⟨by omega, by omega, by omega, by omega, by omega, fun x hx => (h6 x hx).1, fun x hx => (h7 x hx).1, fun c hc => ?_, hf, fun x hx => (h6 x hx).2, fun x hx => (h7 x hx).2⟩
  have := h8 c hc
  unfold chB at this
  simp only [Bool.and_eq_true, decide_eq_true_eq] at this
  exact ⟨this.1.1.1, by omega, by omega, by omega⟩

theorem fok_fallen {f : PF} (h : FOk f) (n : Int) : FOk (f.fallen n) := by
  have hl := h.2.2.2.2.2 (rest n (manyL f.loose))
  refine ⟨hl, hl, by simp [PF.fallen], by simp [PF.fallen, manyL], trivial, fun left => ?_⟩
  show (kept f.loose (rest n (manyL f.loose)) f.safe).length < 2000000
  exact hl

theorem fallF_ok (keep : List Int) (l : DB) (fs : List PF) (h : ∀ f ∈ fs, FOk f) : ∀ k, (∀ f ∈ fallF keep l fs k, FOk f) ∧ (fallF keep l fs k).length = fs.length
  | 0 => ⟨h, rfl⟩
  | k + 1 => by
    obtain ⟨h1, h2⟩ := fallF_ok keep l fs h k
    unfold fallF
    cases l[k]? with
    | none => exact ⟨h1, h2⟩
    | some x =>
      refine ⟨fun f hf => ?_, by simpa using h2⟩
      rcases List.mem_or_eq_of_mem_set hf with hm | rfl
      · exact h1 f hm
      · refine fok_fallen ?_ _
        by_cases hlt : x.2 < (fallF keep l fs k).length
        · rw [List.getD_eq_getElem?_getD, List.getElem?_eq_getElem hlt]
          exact h1 _ (List.getElem_mem hlt)
        · rw [List.getD_eq_getElem?_getD, List.getElem?_eq_none (by omega)]
          exact fok_new

theorem small_fell {d : PD} (h : Small d) (keep : List Int) (k : Nat) : Small (d.fell keep k) := by
  obtain ⟨h1, h2⟩ := fallF_ok keep d.names d.files h.fl k
  have hl : (d.fell keep k).files.length = d.files.length := h2
  exact ⟨by rw [hl]; exact h.files, h.loose, h.names, h.safe, h.calls, fun x hx => by rw [hl]; exact h.idn x hx, fun x hx => by rw [hl]; exact h.ids x hx, h.ch, h1, h.nml, h.sml⟩

theorem redone_min (d : PD) (k : Nat) : d.redone k = d.redone (min k d.loose.length) := by
  unfold PD.redone
  by_cases h : k ≤ d.loose.length
  · rw [Nat.min_eq_left h]
  · rw [Nat.min_eq_right (by omega), List.take_of_length_le (by omega), List.take_length]

theorem redone_all {d : PD} {n : Nat} (hn : d.loose.length = n) {Q : PD → Prop} (h : ∀ k, k ≤ n → Q (d.redone k)) : ∀ k, Q (d.redone k) := fun k => by
  rw [redone_min]
  exact h _ (by omega)

theorem on_fallQ {W w : World} {p : Nat} {d : PD} {vh : Value} {lh : List UInt8} (h : OnR W w p d vh lh) (w2 : World) (hb : Below w.heap.size w w2) (room crash names : Int) (done : Bool) (kv : Value) (keep : List Int) (r : Nat) (hr : rest names d.loose.length = r) (hnn : (Lit.int .i64 names).wf = true) (hkw : ∀ v ∈ keep, (Lit.int .i64 v).wf = true) (hkl : keep.length < 1000000)
    (hkv : (kv = .slice none 0 0 ∧ keep = []) ∨ ∃ kb cap, kv = .slice (some ⟨kb, 0, none⟩) keep.length cap ∧ 0 < keep.length ∧ w.heap.size ≤ kb ∧ kb < w2.heap.size ∧ ∀ (i : Nat) (v : Int), keep[i]? = some v → w2.cell? ⟨kb, i, none⟩ = some (.int .i64 v))
    (hsm : ∀ k, k ≤ d.loose.length → Small (d.redone k)) (hnd : ((d.redone r).names.map (·.2)).Nodup) (d' : PD) (hd' : (((d.redone r).fell keep (d.redone r).names.length).settled).begun room crash done = d') :
    Calls Try.prog 16 #[.pointer (some ⟨p, 0, none⟩), .agg #[.int .i64 room, .int .i64 crash, .bool done, kv, .int .i64 names]] w2 fun e w' => e = .returned (.tuple #[]) ∧ OnR W w' p d' vh lh := by
  subst hr
  have hall := redone_all rfl hsm
  exact on_fallR h w2 hb room crash names done kv keep hnn hkw hkl hkv hall (fun k => small_fell (hall _) keep k) hnd d' hd'

/-- A disk that does not crash. -/
def dk (R : Int) (c : Nat) (fs : List PF) (nm sf : DB) (ls : List PC) : PD := ⟨R, 0, false, c, false, fs, nm, sf, ls⟩

theorem dk_make (R : Int) (c : Nat) (fs : List PF) (nm sf : DB) (ls : List PC) (n : List UInt8) (hn : nmOk n = true) (hf : dfind nm n = none) : (dk R c fs nm sf ls).make n = (0, dk R (c + 1) (fs ++ [PF.new]) (ren nm ⟨0, [], n, fs.length⟩) sf (ls ++ [⟨0, [], n, fs.length⟩])) := by
  unfold PD.make
  rw [show (dk R c fs nm sf ls).down = false from rfl, hn, show dfind (dk R c fs nm sf ls).names n = none from hf, err_none rfl, after_none rfl]
  rfl
theorem dk_safe (R : Int) (c : Nat) (fs : List PF) (nm sf : DB) (ls : List PC) (n : List UInt8) (id : Nat) (hf : dfind nm n = some id) : (dk R c fs nm sf ls).makeSafe n = (0, dk R (c + 1) (fs.set id (fs.getD id PF.new).safed) nm sf ls) := by
  unfold PD.makeSafe
  rw [show (dk R c fs nm sf ls).down = false from rfl, show dfind (dk R c fs nm sf ls).names n = some id from hf, err_none rfl, if_neg (by simp)]
  dsimp only
  rw [after_none rfl]
  rfl
theorem dk_names (R : Int) (c : Nat) (fs : List PF) (nm sf : DB) (ls : List PC) : (dk R c fs nm sf ls).nameSafe = (0, dk R (c + 1) (nm.map fun x => fs.getD x.2 PF.new) (numb nm) (numb nm) []) := by
  unfold PD.nameSafe
  rw [show (dk R c fs nm sf ls).down = false from rfl, err_none rfl, after_none rfl]
  rfl
theorem dk_move (R : Int) (c : Nat) (fs : List PF) (nm sf : DB) (ls : List PC) (n m : List UInt8) (id : Nat) (hm : nmOk m = true) (hf : dfind nm n = some id) : (dk R c fs nm sf ls).move n m = (0, dk R (c + 1) fs (ren nm ⟨1, n, m, 0⟩) sf (ls ++ [⟨1, n, m, 0⟩])) := by
  unfold PD.move
  rw [show (dk R c fs nm sf ls).down = false from rfl, hm, show dfind (dk R c fs nm sf ls).names n = some id from hf, err_none rfl, if_neg (by simp), if_neg (by simp)]
  dsimp only
  rw [after_none rfl]
  rfl
theorem dk_write (R : Int) (c : Nat) (fs : List PF) (nm sf : DB) (ls : List PC) (n : List UInt8) (id u a : Nat) (l : List UInt8) (hf : dfind nm n = some id) (hu : (dk R c fs nm sf ls).used = u) (ha : a ≤ (fs.getD id PF.new).now.length) (hl : a + l.length ≤ 1048576) (hr : (u : Int) + (l.length : Int) ≤ R) :
    (dk R c fs nm sf ls).write n (a : Int) l = (0, dk R (c + 1) (fs.set id ((fs.getD id PF.new).wrote a l)) nm sf ls) := by
  rw [write_in (d := dk R c fs nm sf ls) (id := id) (u := u) rfl rfl hf hu ha hl (by
    have : ((dk R c fs nm sf ls).file id).now.length = (fs.getD id PF.new).now.length := rfl
    show (u : Int) + max 0 ((a : Int) + (l.length : Int) - (((dk R c fs nm sf ls).file id).now.length : Int)) ≤ R
    omega)]
  rfl
theorem dk_read (R : Int) (c : Nat) (fs : List PF) (nm sf : DB) (ls : List PC) (n : List UInt8) (id a k : Nat) (hf : dfind nm n = some id) (ha : a ≤ (fs.getD id PF.new).now.length) : (dk R c fs nm sf ls).read n (a : Int) (k : Int) = ((((fs.getD id PF.new).now.drop a).take k), 0) := by
  unfold PD.read
  rw [show (dk R c fs nm sf ls).down = false from rfl, show dfind (dk R c fs nm sf ls).names n = some id from hf]
  have e : (dk R c fs nm sf ls).file id = fs.getD id PF.new := rfl
  rw [if_neg (by simp)]
  dsimp only
  rw [e, if_neg (by omega)]
  rfl
theorem dk_size (R : Int) (c : Nat) (fs : List PF) (nm sf : DB) (ls : List PC) (n : List UInt8) (id : Nat) (hf : dfind nm n = some id) : (dk R c fs nm sf ls).size n = ((fs.getD id PF.new).now.length, true) := by
  unfold PD.size
  rw [show dfind (dk R c fs nm sf ls).names n = some id from hf]
  rfl
theorem dk_size_none (R : Int) (c : Nat) (fs : List PF) (nm sf : DB) (ls : List PC) (n : List UInt8) (hf : dfind nm n = none) : (dk R c fs nm sf ls).size n = (0, false) := by
  unfold PD.size
  rw [show dfind (dk R c fs nm sf ls).names n = none from hf]

/-- A file whose bytes are safe. -/
def fsafe (l : List UInt8) : PF := ⟨l, l, []⟩
theorem safed_fw (l : List UInt8) : (fw l).safed = fsafe l := by
  have hm : manyL (fw l).loose = l.length := by simp [fw, manyL]
  have hw : wr [] 0 l = l := wr_zero l
  unfold PF.safed
  rw [hm]
  show PF.mk (kept [(0, l)] l.length []) (wr [] 0 l) [] = PF.mk l l []
  rw [hw]
  congr 1
  by_cases h : l.length = 0
  · rw [h, kept_zero, List.eq_nil_of_length_eq_zero h]
  · rw [kept_cons _ _ _ _ h, List.take_length, hw]
    simp [kept]
theorem fok_fsafe (l : List UInt8) (h : l.length < 1000000) : FOk (fsafe l) := fok_of (by simp [fsafe, manyL]; exact h) h (by simp [fsafe]) trivial
theorem new_wrote (l : List UInt8) : PF.new.wrote 0 l = fw l := rfl
theorem fok_fw2 (l : List UInt8) (hl : l.length < 900000) : FOk (fw l) := fok_of (by simp [fw, manyL]; omega) (by rw [fw_len]; omega) (by simp [fw]) ⟨Nat.zero_le _, trivial⟩
theorem fall_fsafe (l : List UInt8) (n : Int) : (fsafe l).fallen n = fsafe l := rfl
end Go.Proofs.Ytmlijnekidihbaa
