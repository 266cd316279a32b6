/-
  What batch.read does, for any bytes.
-/
import Derived.Test.YtpbmacbogmnokaaBatchReadOp
import Derived.Test.YtpbmacbogmnokaaCells
namespace Go.Proofs.Ytpbmacbogmnokaa
open Go.RowKit

theorem info_bat : (Try.prog.info? 24).map (fun i => (i.zero, i.size, i.bytes)) = some (some (.agg #[.int .i64 0, .slice none 0 0]), 2, 32) := by kernel_rfl

/-- What is told of a batch. -/
def AnsBat (x : Option (Nat × List Ope × Nat)) (B : Nat) (e : Ending) (w' : World) : Prop :=
  match x with
  | some (s, ops, _) => ∃ v, e = .returned (.tuple #[.agg #[.int .i64 (s : Int), v], .bool true]) ∧ OwnO w' B 43 v ops
  | none => e = .returned (.tuple #[.agg #[.int .i64 0, .slice none 0 0], .bool false])

theorem opsAt_step {l : List UInt8} {n p q : Nat} {o : Ope} (h : opAt l p = some (o, q)) : opsAt l (n + 1) p = (opsAt l n q).map fun x => (o :: x.1, x.2) := by
  rw [opsAt, h]
  simp only
  cases opsAt l n q with
  | none => rfl
  | some x => rfl

theorem opsAt_none {l : List UInt8} {n p : Nat} (h : opAt l p = none) : opsAt l (n + 1) p = none := by rw [opsAt, h]

/-- The state of the reading: the zero batch in the box that is told, the batch so far in the box behind it. -/
structure St (W : World) (s : Int) (w : World) (v : Value) (ops : List Ope) : Prop where
  bel : Below W.heap.size W w
  z : w.heap[W.heap.size]? = some (.cells #[.int .i64 0, .slice none 0 0] 24 (0, 0))
  bx : w.heap[W.heap.size + 1]? = some (.cells #[.int .i64 s, v] 24 (0, 0))
  own : OwnO w (W.heap.size + 2) 43 v ops
  sz : W.heap.size + 2 ≤ w.heap.size

variable {W w w' : World} {s : Int} {v v' : Value} {ops : List Ope}

theorem St.start (W : World) (s : Int) : St W s ((W.alloc (.cells #[.int .i64 0, .slice none 0 0] 24)).alloc (.cells #[.int .i64 s, .slice none 0 0] 24)) (.slice none 0 0) [] where
  bel := ((Below.refl _ _).alloc (Nat.le_refl _) _).alloc (by simp) _
  z := by
    rw [Below.heap_alloc _ _ _ (by simp)]
    exact heap_alloc_new W _
  bx := heap_new2 W _ _
  own := OwnO.nil _ _ _
  sz := by simp

theorem St.call (h : St W s w v ops) (hb : Below w.heap.size w w') : St W s w' v ops where
  bel := h.bel.trans (hb.mono (by have := h.sz; omega))
  z := (hb.block _ (by have := h.sz; omega)).trans h.z
  bx := (hb.block _ (by have := h.sz; omega)).trans h.bx
  own := h.own.below hb (Nat.le_refl _)
  sz := Nat.le_trans h.sz hb.size

theorem St.more (h : St W s w v ops) {ops' : List Ope} (hb : Below (W.heap.size + 2) w w') (ho : OwnO w' (W.heap.size + 2) 43 v' ops') :
    St W s (w'.setCell ⟨W.heap.size + 1, 1, none⟩ v') v' ops' where
  bel := (h.bel.trans (hb.mono (by omega))).setCell (by simp) _
  z := by
    have h1 := (hb.block W.heap.size (by omega)).trans h.z
    unfold World.setCell
    simp only [Array.getElem?_modify, if_neg (show ¬ W.heap.size + 1 = W.heap.size by omega)]
    exact h1
  bx := by
    have h1 := (hb.block (W.heap.size + 1) (by omega)).trans h.bx
    rw [blk_set h1]
    rfl
  own := by
    exact own_kept ho (R := fun k => W.heap.size + 2 ≤ k) ((Kept.refl _ _).setCell (by simp) _) fun k hk => (World.ownsRow.lt ho k hk).1
  sz := by
    have := h.sz
    have := hb.size
    simp
    omega

theorem St.cells (h : St W s w v ops) : (w.cell? ⟨W.heap.size, 0, none⟩ = some (.int .i64 0) ∧ w.cell? ⟨W.heap.size, 1, none⟩ = some (.slice none 0 0) ∧ w.frozen? ⟨W.heap.size, 0, none⟩ = false ∧ w.frozen? ⟨W.heap.size, 1, none⟩ = false) ∧
    w.cell? ⟨W.heap.size + 1, 0, none⟩ = some (.int .i64 s) ∧ w.cell? ⟨W.heap.size + 1, 1, none⟩ = some v ∧ w.frozen? ⟨W.heap.size + 1, 0, none⟩ = false ∧ w.frozen? ⟨W.heap.size + 1, 1, none⟩ = false :=
  ⟨⟨blk_cell h.z, blk_cell h.z, blk_free h.z, blk_free h.z⟩, blk_cell h.bx, blk_cell h.bx, blk_free h.bx, blk_free h.bx⟩

theorem opsAt_fits {l : List UInt8} (hl : l.length ≤ maxLen) : ∀ {n p e : Nat} {ops : List Ope}, opsAt l n p = some (ops, e) → ∀ o ∈ ops, o.fits
  | 0, p, e, ops, h => by
    simp only [opsAt, Option.some.injEq, Prod.mk.injEq] at h
    obtain ⟨rfl, rfl⟩ := h
    simp
  | n + 1, p, e, ops, h => by
    unfold opsAt at h
    split at h
    · cases h
    · rename_i o q ho
      obtain ⟨_, _, _, o4, o5, o6⟩ := opAt_stands ho
      split at h
      · cases h
      · rename_i r e' hr
        simp only [Option.some.injEq, Prod.mk.injEq] at h
        obtain ⟨rfl, rfl⟩ := h
        intro x hx
        rcases List.mem_cons.1 hx with rfl | hx
        · refine ⟨?_, by omega, by omega⟩
          simp [Lit.wf, IntKind.min, IntKind.max, IntKind.signed, IntKind.bits]
          omega
        · exact opsAt_fits hl hr x hx

theorem batAt_n1 {l : List UInt8} (h : getAt l 0 = none) : batAt l = none := by unfold batAt; rw [h]
theorem batAt_n2 {l : List UInt8} {s a : Nat} (h : getAt l 0 = some (s, a)) (h2 : getAt l (a : Int) = none) : batAt l = none := by unfold batAt; rw [h]; simp only; rw [h2]
theorem batAt_n3 {l : List UInt8} {s a n b : Nat} (h : getAt l 0 = some (s, a)) (h2 : getAt l (a : Int) = some (n, b)) (h3 : 32 < n) : batAt l = none := by unfold batAt; rw [h]; simp only; rw [h2]; simp only; rw [if_pos h3]
theorem batAt_ops {l : List UInt8} {s a n b : Nat} (h : getAt l 0 = some (s, a)) (h2 : getAt l (a : Int) = some (n, b)) (h3 : ¬ 32 < n) : batAt l = (opsAt l n b).map fun x => (s, x.1, x.2) := by
  unfold batAt; rw [h]; simp only; rw [h2]; simp only; rw [if_neg h3]
  cases opsAt l n b with
  | none => rfl
  | some x => rfl

set_option maxRecDepth 100000 in
set_option maxHeartbeats 8000000 in
theorem read_any (v : Value) (l : List UInt8) (w : World) (hv : RdB w v l) :
    Calls Try.prog 48 #[v] w fun e w' => AnsBat (batAt l) w.heap.size e w' ∧ Below w.heap.size w w' := by
  obtain ⟨a, cap, rfl, _, _⟩ := hv.form
  have HV := Lib.hid (hv.below ((Below.refl w.heap.size w).alloc (Nat.le_refl _) (.cells #[.int .i64 0, .slice none 0 0] 24)) (Nat.le_refl _))
  have HV0 := Lib.hid hv
  clear hv
  cases hg : getAt l 0 with
  | none =>
    have HG := Lib.hid hg
    have HG2 := HG
    have HR := Lib.hid (batAt_n1 hg)
    clear hg
    rw [HR.out]
    go_enter Try.func48, Try.ntmps48
    go_wp2_with (go_at_call 55; refine (get_any _ l _ _ HV.out).mono ?_; rintro e w1 ⟨rfl, rfl⟩; (first | rw [HG.out] | rw [HG2.out]); unfold ans3)
    refine bodyPost_ret (v := .tuple #[.agg #[.int .i64 0, .slice none 0 0], .bool false]) (by simp [results, Try.results48, go_sem]) rfl ?_
    exact ⟨rfl, (by repeat (first | exact (Below.refl _ _).alloc (Nat.le_refl _) _ | refine Below.setCell ?_ (Nat.le_refl _) _))⟩
  | some x =>
    obtain ⟨s, a1⟩ := x
    have HG := Lib.hid hg
    cases hg2 : getAt l (a1 : Int) with
    | none =>
      have HG2 := Lib.hid hg2
      have HR := Lib.hid (batAt_n2 hg hg2)
      clear hg hg2
      rw [HR.out]
      go_enter Try.func48, Try.ntmps48
      go_wp2_with (go_at_call 55; refine (get_any _ l _ _ HV.out).mono ?_; rintro e w1 ⟨rfl, rfl⟩; (first | rw [HG.out] | rw [HG2.out]); unfold ans3)
      refine bodyPost_ret (v := .tuple #[.agg #[.int .i64 0, .slice none 0 0], .bool false]) (by simp [results, Try.results48, go_sem]) rfl ?_
      exact ⟨rfl, (by repeat (first | exact (Below.refl _ _).alloc (Nat.le_refl _) _ | refine Below.setCell ?_ (Nat.le_refl _) _))⟩
    | some y =>
      obtain ⟨n, b1⟩ := y
      have HG2 := Lib.hid hg2
      by_cases h32 : 32 < n
      · have HR := Lib.hid (batAt_n3 hg hg2 h32)
        have i32 : (32 : Int) < (n : Int) := by omega
        clear hg hg2
        rw [HR.out]
        go_enter Try.func48, Try.ntmps48
        go_wp2_with (go_at_call 55; refine (get_any _ l _ _ HV.out).mono ?_; rintro e w1 ⟨rfl, rfl⟩; (first | rw [HG.out] | rw [HG2.out]); unfold ans3)
        refine bodyPost_ret (v := .tuple #[.agg #[.int .i64 0, .slice none 0 0], .bool false]) (by simp [results, Try.results48, go_sem]) rfl ?_
        exact ⟨rfl, (by repeat (first | exact (Below.refl _ _).alloc (Nat.le_refl _) _ | refine Below.setCell ?_ (Nat.le_refl _) _))⟩
      · have HR := Lib.hid (batAt_ops hg hg2 h32)
        have i32 : (n : Int) ≤ 32 := by omega
        have HST := Lib.hid (St.start w (s : Int))
        clear hg hg2
        rw [HR.out]
        go_enter Try.func48, Try.ntmps48
        go_wp2_with (go_at_call 55; refine (get_any _ l _ _ HV.out).mono ?_; rintro e w1 ⟨rfl, rfl⟩; (first | rw [HG.out] | rw [HG2.out]); unfold ans3)
        go_loopw [5, 38] (fun pv kv wr => ∃ (k p : Nat) (u : Value) (ops : List Ope), k ≤ n ∧ pv = .int .i64 p ∧ kv = .int .i64 k ∧ ops.length = k ∧ St w (s : Int) wr u ops ∧ Hid (opsAt l n b1 = (opsAt l (n - k) p).map fun x => (ops ++ x.1, x.2))) (fun _ kv _ => n - (intOf kv).toNat)
        case atStart => exact ⟨0, b1, _, [], Nat.zero_le _, rfl, rfl, rfl, HST.out, Lib.hid (by simp)⟩
        case round =>
          obtain ⟨k, p, u, ops, hk, rfl, rfl, hlen, hst, HO⟩ := hrel
          obtain ⟨⟨z0, z1, z2, z3⟩, c0, c1, c2, c3⟩ := hst.cells
          obtain ⟨ua, uc, rfl, _, _⟩ := hst.own.form
          have HS := Lib.hid hst
          have HLEN := Lib.hid hlen
          clear hst hlen
          by_cases hlt : k < n
          · have hnk : n - k = (n - (k + 1)) + 1 := by omega
            have hrd := readOp_any (.slice a l.length cap) l p wr (HV0.out.below HS.out.bel (Nat.le_refl _))
            cases ho : opAt l p with
            | none =>
              rw [ho] at hrd
              have HRD := Lib.hid hrd
              have HN : Hid (opsAt l n b1 = none) := Lib.hid (by rw [HO.out, hnk, opsAt_none ho]; rfl)
              clear hrd ho hnk
              go_wp2_with (go_at_call 56; refine HRD.out.mono ?_; rintro e w2 ⟨⟨o, q, rfl⟩, hb2⟩; have hs2 := HS.out.call hb2; obtain ⟨⟨z0, z1, z2, z3⟩, c0, c1, c2, c3⟩ := hs2.cells; have hy0 : w.heap.size < w2.heap.size := Nat.lt_of_lt_of_le (by omega) hs2.sz; have hy1 : w.heap.size + 1 < w2.heap.size := Nat.lt_of_lt_of_le (by omega) hs2.sz; have HS2 := Lib.hid hs2; clear hb2 hs2)
              refine bodyPost_ret (v := .tuple #[.agg #[.int .i64 0, .slice none 0 0], .bool false]) (by simp [results, Try.results48, go_sem, z0, z1, hy0]) rfl ?_
              exact ⟨by rw [HN.out]; rfl, ((HS2.out.bel.setCell (Nat.le_refl _) _).setCell (Nat.le_refl _) _).alloc (by have := HS2.out.sz; simp; omega) _⟩
            | some x =>
              obtain ⟨o, q⟩ := x
              rw [ho] at hrd
              have HRD := Lib.hid hrd
              have HN : Hid (opsAt l n b1 = (opsAt l (n - (k + 1)) q).map fun x => ((ops ++ [o]) ++ x.1, x.2)) := Lib.hid (by rw [HO.out, hnk, opsAt_step ho]; cases opsAt l (n - (k + 1)) q <;> simp)
              clear hrd ho hnk
              go_wp2_with (first | (go_at_call 56; refine HRD.out.mono ?_; rintro e w2 ⟨he, hb2⟩; unfold AnsOp at he; subst he; have hs2 := HS.out.call hb2; obtain ⟨⟨z0, z1, z2, z3⟩, c0, c1, c2, c3⟩ := hs2.cells; have hy0 : w.heap.size < w2.heap.size := Nat.lt_of_lt_of_le (by omega) hs2.sz; have hy1 : w.heap.size + 1 < w2.heap.size := Nat.lt_of_lt_of_le (by omega) hs2.sz; have HS2 := Lib.hid hs2; clear hb2 hs2) | (at_builtin; refine wpList_append_rd rfl (.tmp 51) (.tmp 53) 22 rfl (w.heap.size + 2) 43 3 40 (.agg #[.int .i64 0, .string ⟨#[]⟩, .string ⟨#[]⟩]) Try.underlying22 info_op rfl (by decide) _ _ _ 1 _ ([o].flatMap Ope.cells) rfl rfl (World.ownsRow.alloc (World.ownsRow.alloc HS2.out.own _) _) ?rdA (opFlat_one _) ?bbA ?l1A ?l2A ?kkA))
              case rdA =>
                have h := one_op (w2.alloc (.cells #[.int .i64 o.k, .string o.u, .string o.v] 43)) o
                have hs : (w2.alloc (.cells #[.int .i64 o.k, .string o.u, .string o.v] 43)).heap.size = w2.heap.size + 1 := by simp
                rw [hs] at h
                rw [opFlat_one_]
                exact h
              case bbA => (have := HS2.out.sz; simp; omega)
              case l1A => (have := HLEN.out; omega)
              case l2A => (have := HLEN.out; unfold maxLen; omega)
              case kkA =>
                intro vA wA hown hBk
                have hs := HS2.out.sz
                have hb := hBk (w.heap.size + 2) w2 (Nat.le_refl _) (((Below.refl _ _).alloc hs _).alloc (by simp; omega) _)
                have ho : OwnO wA (w.heap.size + 2) 43 vA (ops ++ [o]) := by unfold OwnO; rw [List.length_append, opFlat_app]; exact hown
                obtain ⟨va, vc, rfl, _, _⟩ := ho.form
                have d1 := (hb.cell (p := ⟨w.heap.size + 1, 1, none⟩) (by show w.heap.size + 1 < w.heap.size + 2; omega)).trans c1
                have d3 := (hb.frozen (p := ⟨w.heap.size + 1, 1, none⟩) (by show w.heap.size + 1 < w.heap.size + 2; omega)).trans c3
                have hnew := HS2.out.more hb ho
                simp only [List.length_append, List.length_cons, List.length_nil, Nat.zero_add] at hnew
                have HNEW := Lib.hid hnew
                clear hnew
                clear hs hb ho hown hBk z0 z1 z2 z3 c0 c1 c2 c3
                go_wp2
                refine ⟨⟨k + 1, q, _, ops ++ [o], by omega, rfl, by go_num, by rw [List.length_append, HLEN.out]; rfl, HNEW.out, HN⟩, ?_⟩
                simp [intOf]; omega
          · obtain rfl : k = n := by omega
            have HN : Hid (opsAt l k b1 = some (ops, p)) := Lib.hid (by rw [HO.out, Nat.sub_self]; simp [opsAt])
            go_wp2
            refine bodyPost_ret (v := .tuple #[.agg #[.int .i64 (s : Int), .slice ua ops.length uc], .bool true]) (by simp [results, Try.results48, go_sem, z0, z1]) rfl ?_
            refine ⟨?_, (HS.out.bel.setCell (Nat.le_refl _) _).setCell (Nat.le_refl _) _⟩
            rw [HN.out]
            refine ⟨_, rfl, ?_⟩
            have ho := HS.out.own
            exact own_mono (own_kept ho (R := fun q => w.heap.size + 2 ≤ q) (((Kept.refl _ _).setCell (by simp) _).setCell (by simp) _) fun q hq => (World.ownsRow.lt ho q hq).1) (by omega)
end Go.Proofs.Ytpbmacbogmnokaa
