/-
  Copies of slices (slices.Clone); a file that falls; how many bytes all files have.
-/
import Derived.Test.YtmlijnekidihbaaDiskClone
namespace Go.Proofs.Ytmlijnekidihbaa
open Go.RowKit

section
variable {P : Program} {w : World} {o : Oper} {a : Act} {K : Act → World → Prop} {Q : Exit → Act → World → Prop}

theorem put_one (l : List (Nat × List UInt8)) : ∀ u ∈ putCells l, u.oneCell' = true := by
  intro u hu
  unfold putCells at hu
  obtain ⟨p, _, hp⟩ := List.mem_flatMap.1 hu
  rcases List.mem_cons.1 hp with rfl | hp
  · rfl
  · obtain rfl := List.mem_singleton.1 hp
    rfl

theorem ch_one (l : List PC) : ∀ u ∈ chCells l, u.oneCell' = true := by
  intro u hu
  unfold chCells at hu
  obtain ⟨p, _, hp⟩ := List.mem_flatMap.1 hu
  simp only [List.mem_cons, List.not_mem_nil, or_false] at hp
  rcases hp with rfl | rfl | rfl | rfl <;> rfl

end

theorem eqn_bytes (w : World) : (binOp .eql 22 (.slice none 0 0) (.slice none 0 0)).run Try.prog w = .ok (.bool true) w := by kernel_rfl
theorem eqs_bytes (ad : Addr) (n cap : Nat) (w : World) : (binOp .eql 22 (.slice (some ad) n cap) (.slice none 0 0)).run Try.prog w = .ok (.bool false) w := by kernel_rfl

set_option maxRecDepth 100000 in
set_option maxHeartbeats 1000000 in
theorem clone_bytes (w : World) (v : Value) (n : Nat) (cs : List Value) (h : Rd w 1 v n cs) (hone : ∀ u ∈ cs, u.oneCell' = true) (hn : n < 1000000000000) :
    Calls Try.prog 64 #[v] w fun e w' => ∃ v', e = .returned v' ∧ w'.ownsRow 0 5 1 v' n cs ∧ Below w.heap.size w w' ∧ (∀ k, v'.ownBlock = some k → w.heap.size ≤ k ∧ k < w'.heap.size) := by
  have h0 := h
  obtain ⟨a, cap, rfl, h1, h2, h3, h4⟩ := h
  by_cases hnil : a = none
  · subst hnil
    rcases h4 with ⟨rfl, hc⟩ | ⟨b, off, hb, _⟩
    · obtain rfl := hc rfl
      have : cs = [] := List.eq_nil_of_length_eq_zero (by simpa using h3)
      subst this
      have hq := eqn_bytes
      go_enter Try.func64, Try.ntmps64
      go_wp2
      go_ret
      exact ⟨_, rfl, World.ownsRow_nil _ _ _ _, Below.refl _ _, fun k hk => by cases hk⟩
    · cases hb
  · obtain ⟨ad, rfl⟩ := Option.ne_none_iff_exists'.1 hnil
    have hrd : Rd (w.alloc (.cells #[] 5)) 1 (.slice (some ad) n cap) n cs := h0.below ((Below.refl _ _).alloc (Nat.le_refl _) _) (Nat.le_refl _)
    have hrow : (w.alloc (.cells #[] 5)).ownsRow 0 5 1 (.slice (some ⟨w.heap.size, 0, none⟩) 0 0) 0 [] := World.ownsRow_made w #[] 0 (Nat.zero_le _) (Nat.zero_le _) (by simp)
    have hq := eqs_bytes ad n cap
    have Hrd := Lib.hid hrd
    have Hrow := Lib.hid hrow
    have Hone := Lib.hid hone
    have H3 := Lib.hid h3
    have H4 := Lib.hid h4
    have H0 := Lib.hid h0
    clear hrd hrow hone h3 h4 h0
    go_enter Try.func64, Try.ntmps64
    go_wp2_with (at_builtin; refine wpList_plain rfl fun K' hK' => ?_; refine wp_append_at (.tmp 5) (.tmp 6) 22 rfl 5 1 1 (.int .u8 0) Try.underlying22 info_u8 rfl (by decide) _ _ 0 n [] cs rfl rfl Hrow.out Hrd.out Hone.out (by omega) (by unfold maxLen; omega) (fun v' w' hown hmv => hK' _ _ ?_))
    go_ret
    refine ⟨v', rfl, by simpa using hown, ?_, fun k hk => ?_⟩
    · have hb := (Below.refl w.heap.size w).alloc (Nat.le_refl _) (.cells #[] 5)
      exact hb.grown hmv.grown (by simp) (fun k hk => by cases hk; exact Nat.le_refl _)
    · rcases hmv.at_ k hk with h | h
      · cases h
        exact ⟨Nat.le_refl _, own_lt hown _ hk⟩
      · simp at h
        omega

theorem eqn_writes (w : World) : (binOp .eql 91 (.slice none 0 0) (.slice none 0 0)).run Try.prog w = .ok (.bool true) w := by kernel_rfl
theorem eqs_writes (ad : Addr) (n cap : Nat) (w : World) : (binOp .eql 91 (.slice (some ad) n cap) (.slice none 0 0)).run Try.prog w = .ok (.bool false) w := by kernel_rfl

theorem eqn_changes (w : World) : (binOp .eql 58 (.slice none 0 0) (.slice none 0 0)).run Try.prog w = .ok (.bool true) w := by kernel_rfl
theorem eqs_changes (ad : Addr) (n cap : Nat) (w : World) : (binOp .eql 58 (.slice (some ad) n cap) (.slice none 0 0)).run Try.prog w = .ok (.bool false) w := by kernel_rfl

end Go.Proofs.Ytmlijnekidihbaa
