/-
  What is landed of package filter: a filter's bytes.
-/
import Derived.Test.YtlgfodlimehppaaFilM
namespace Go.Proofs.Ytlgfodlimehppaa
open Go.RowKit Ieee

/-- 'make([]byte, n, c)'. -/
theorem wpList_make_cap {P : Program} {w : World} {ops : Array Oper} {rest : List Oper} {o : Oper} {a : Act} {Q : Exit → Act → World → Prop}
    (hg : o.guard = none) (x y : Operand) (t : TypeId) (hop : o.op = Op.makeSlice t x y)
    (e : Nat) (h1 : P.underlying t = some (.slice e)) (h2 : (P.info? e).map (fun i => (i.zero, i.size, i.bytes)) = some (some (.int .u8 0), 1, 1))
    (kl kc : IntKind) (n c : Nat) (hl : a.eval x = .int kl (n : Int)) (hc : a.eval y = .int kc (c : Int)) (hnc : n ≤ c) (hn : c ≤ 281474976710656)
    (hK : ∀ w', OwnB w' w.heap.size e (.slice (some ⟨w.heap.size, 0, none⟩) n c) (List.replicate n 0) → Below w.heap.size w w' → wpList P ops Q rest (a.put o.dst (.slice (some ⟨w.heap.size, 0, none⟩) n c)) w') :
    wpList P ops Q (o :: rest) a w := by
  obtain ⟨i0, hi, hz0, hz1, hz2⟩ := info_parts h2
  refine wpList_plain hg fun K hK' => ?_
  have hr := run_make (P := P) w t e i0 (.int .u8 0) h1 hi hz0 kl kc n c (by omega) (by omega) (by rw [hz2]; omega) (by omega)
  simp only [Int.toNat_natCast, hz1] at hr
  unfold Oper.wp
  simp [execOp, hop, hl, hc, hr, Result.andThen]
  refine hK' _ _ (hK _ ?_ ((Below.refl _ _).alloc (Nat.le_refl _) _))
  unfold OwnB
  rw [List.length_replicate]
  refine ⟨by simp, .inr ⟨w.heap.size, c, madeCells (Value.int .u8 0).cells c, rfl, Nat.le_refl _, heap_alloc_new w _, hnc, by unfold maxLen; omega, by rw [Nat.mul_one]; exact size_madeCells _ _, ?_⟩⟩
  rw [← Nat.mul_one c, madeZeros, ← List.map_take, List.take_replicate, Nat.mul_one, Nat.min_eq_left hnc]

theorem setBit_end {A : List UInt8} {x : Nat} (c : UInt8) (h : x / 8 < A.length) : setBit (A ++ [c]) x = setBit A x ++ [c] := by
  unfold setBit
  rw [List.set_append_left _ _ h]
  congr 2
  simp [List.getD, List.getElem?_append_left h]
theorem putBits_end {A : List UInt8} {M : Nat} (c : UInt8) (h : Nat) (hM : 0 < M) (hA : A.length = M) : ∀ n, putBits (A ++ [c]) h M n = putBits A h M n ++ [c]
  | 0 => rfl
  | n + 1 => by
    rw [putBits_succ, putBits_succ, putBits_end c h hM hA n, setBit_end]
    rw [putBits_len, hA]
    have := bitX_lt (h := h) (m := M) (j := n) hM
    omega
theorem putKeys_end {M : Nat} (c : UInt8) (n : Nat) (hM : 0 < M) : ∀ (hs : List Nat) (A : List UInt8), A.length = M → putKeys (A ++ [c]) hs M n = putKeys A hs M n ++ [c]
  | [], _, _ => rfl
  | h :: r, A, hA => by
    show putKeys (putBits (A ++ [c]) h M n) r M n = putKeys (putBits A h M n) r M n ++ [c]
    rw [putBits_end c h hM hA, putKeys_end c n hM r _ (by rw [putBits_len, hA])]

set_option maxRecDepth 100000 in
set_option maxHeartbeats 4000000 in
theorem room_any {b n : Nat} (p2 : b ≤ infD) (hl : n ≤ 100000) (w : World) : Calls Try.prog 23 #[.int .i64 (n : Int), .float .f64 b] w fun e w' => e = .returned (.int .i64 (bytesM b n : Int)) ∧ w = w' := by
  obtain ⟨r1, r2, r3, r4⟩ := raw_facts p2 hl
  have hmin := fun ts t w => run_min_words (P := Try.prog) p2 (show w64D ≤ infD by decide) ts t w
  have hmul : ∀ (t : TypeId) (w : World), (binOp .mul t (.float .f64 (min b w64D)) (.float .f64 (wordN n))).run Try.prog w = .ok (.float .f64 (mulR (min b w64D) (wordN n))) w := fun t w => run_float_arith w .mul t .f64 _ _ _ r2
  have HF := Lib.hid (floor_words r3)
  have hcv := fun w => run_convert_float_int (P := Try.prog) w 23 3 .f64 .i64 (wordN (rawM b n)) _ (by kernel_rfl) Try.underlying3 (toInt_wordN (show rawM b n < 9007199254740992 by omega))
  have hcf := float_nat n
  have hM : bytesM b n = (max 64 (rawM b n) + 7) / 8 := rfl
  rw [show wholeD (mulR (min b w64D) (wordN n)) = rawM b n from rfl] at HF
  generalize mulR (min b w64D) (wordN n) = r at *
  generalize min b w64D = a at *
  generalize wordN n = nw at *
  generalize rawM b n = raw at *
  generalize wordN raw = rw' at *
  generalize bytesM b n = M at *
  clear p2 r1 r2 r3
  obtain ⟨mx, hmx⟩ : ∃ mx, max 64 raw = mx := ⟨_, rfl⟩
  rw [hmx] at hM
  have hmax : ∀ (ts : Array TypeId) (t : TypeId) (w : World), (Builtin.max_ ts t #[.int .i64 (raw : Int), .int .i64 64]).run Try.prog w = .ok (.int .i64 (mx : Int)) w := by
    intro ts t w
    have hm : mx = if raw < 64 then 64 else raw := by split <;> omega
    rw [hm]
    by_cases h : raw < 64
    · have h' : (raw : Int) < 64 := by omega
      simp [Builtin.max_, Builtin.max2, h, h']
    · have h' : ¬ (raw : Int) < 64 := by omega
      simp [Builtin.max_, Builtin.max2, h, h']
  have e1 : IntKind.i64.wrap ((mx : Int) + 7) = (mx : Int) + 7 := IntWalk.i64_in _ (by omega)
  have e2 : ((mx : Int) + 7).tdiv 8 = (M : Int) := by rw [Int.tdiv_eq_ediv_of_nonneg (by omega)]; omega
  have e2' : ((mx : Int) + 7) / 8 = (M : Int) := by omega
  have e3 : IntKind.i64.wrap (M : Int) = (M : Int) := IntWalk.i64_in _ (by omega)
  clear hM
  go_enter Try.func23, Try.ntmps23
  go_wp2_with (go_at_call 22; (refine (HF.out _).mono ?_); rintro e w1 ⟨rfl, rfl⟩)
  go_ret
  exact ⟨rfl, rfl⟩

set_option maxRecDepth 100000 in
set_option maxHeartbeats 8000000 in
theorem make_any : MakeC := by
  intro v l b hb w hv hs hl
  have HP := Lib.hid (probes_any b hb w)
  obtain ⟨va, vc, rfl, hc1, hc2⟩ : ∃ a c, v = .slice a l.length c ∧ l.length ≤ c ∧ c ≤ maxLen := by obtain ⟨a, c, h, h1, h2, _⟩ := hv; exact ⟨a, c, h, h1, h2⟩
  by_cases h0 : probesW b = 0
  · have HR := Lib.hid (show makeL (hashes l) b = [] by unfold makeL; rw [if_pos h0])
    rw [h0] at HP
    clear h0 hv
    go_enter Try.func11, Try.ntmps11
    go_wp2_with (go_at_call 9; (refine HP.out.mono ?_); rintro e w1 ⟨rfl, rfl⟩)
    go_ret
    exact ⟨_, rfl, by rw [HR.out]; exact World.ownsRow_nil _ _ _ _, Below.refl _ _⟩
  · obtain ⟨p1, p2⟩ := probesW_pos h0
    have p3 := probesW_le b
    have hM8 : 8 ≤ bytesM b l.length := by unfold bytesM; omega
    have hMl : bytesM b l.length ≤ 1000000 := by
      obtain ⟨_, _, _, r4⟩ := raw_facts p2 hl
      unfold bytesM
      omega
    have hmk : makeL (hashes l) b = putKeys (List.replicate (bytesM b l.length) 0) (hashes l) (bytesM b l.length) (probesW b) ++ [UInt8.ofNat (probesW b)] := by
      unfold makeL
      rw [if_neg h0, show (hashes l).length = l.length by unfold hashes; rw [List.length_map], putKeys_end _ _ (by omega) _ _ (by simp)]
    have HMK := Lib.hid hmk
    have HRM := Lib.hid (room_any (b := b) p2 hl w)
    have HFX := Lib.hid (fixed_yes (probesW b : Int) 1 (by omega))
    have hfx : fixL (probesW b : Int) 1 = [UInt8.ofNat (probesW b)] := by
      show [UInt8.ofNat ((probesW b : Int) / 256 ^ 0 % 256).toNat] = _
      have h : ((probesW b : Int) / 256 ^ 0 % 256).toNat = probesW b := by
        simp only [Int.pow_zero, Int.ediv_one]
        omega
      rw [h]
    rw [hfx] at HFX
    generalize bytesM b l.length = M at *
    generalize probesW b = n at *
    have hn0 : ((n : Int) == 0) = false := by simpa using h0
    have hn1 : ¬ (n : Int) = 0 := by omega
    clear hmk hb p1 p2 hfx
    have e5 : IntKind.i64.wrap ((M : Int) + 1) = ((M + 1 : Nat) : Int) := by rw [IntWalk.i64_in _ (by omega)]; omega
    go_enter Try.func11, Try.ntmps11
    go_wp2_with (first | (go_at_call 9; (refine HP.out.mono ?_); rintro e w1 ⟨rfl, rfl⟩) | (go_at_call 23; (refine HRM.out.mono ?_); rintro e w1 ⟨rfl, rfl⟩) | (at_make; refine wpList_make_cap rfl _ _ 24 rfl 5 Try.underlying24 info_u8 _ _ M (M + 1) rfl rfl ?hnc ?hn ?kk))
    case hnc => omega
    case hn => omega
    case kk =>
      intro w1 ho1 hb1
      have HO1 := Lib.hid ho1
      have HB1 := Lib.hid hb1
      clear ho1 hb1
      obtain ⟨F0, hF0⟩ : ∃ F0, F0 = List.replicate M (0 : UInt8) := ⟨_, rfl⟩
      have hF0l : F0.length = M := by rw [hF0]; simp
      rw [← hF0] at HO1 HMK
      have HFL := Lib.hid hF0l
      have HHL := Lib.hid (show (hashes l).length = l.length by unfold hashes; rw [List.length_map])
      have HV := Lib.hid (show Rd w 1 (.slice va l.length vc) l.length (l.map Value.string) from hv)
      have HSZ := Lib.hid hs
      clear hF0 hF0l hv hs
      go_wp2
      go_loopw [28] (fun i wr => ∃ k : Nat, k ≤ l.length ∧ i = .int .i64 (k : Int) ∧ Hid (OwnB wr w.heap.size 5 (.slice (some ⟨w.heap.size, 0, none⟩) M (M + 1)) (putKeys F0 ((hashes l).take k) M n)) ∧ Hid (Below w.heap.size w wr)) (fun i _ => l.length - (intOf i).toNat)
      case atStart => exact ⟨0, Nat.zero_le _, rfl, HO1, HB1⟩
      case round =>
        obtain ⟨k, hk, rfl, HO, HB⟩ := hrel
        by_cases hlt : k < l.length
        · obtain ⟨sb, so, rfl, hsb, hsc⟩ := rd_str HV.out hlt
          have hsc' := (HB.out.cell (p := ⟨sb, so + k, none⟩) hsb).trans hsc
          have hsz : (l.getD k ⟨#[]⟩).size ≤ maxLen := HSZ.out _ (by simp only [List.getD, List.getElem?_eq_getElem hlt, Option.getD_some]; exact List.getElem_mem hlt)
          have HW := Lib.hid (walkOf_any (l.getD k ⟨#[]⟩) hsz)
          have hh := hashL_lt (l.getD k ⟨#[]⟩).data.toList
          have hnx : putKeys F0 ((hashes l).take (k + 1)) M n = putBits (putKeys F0 ((hashes l).take k) M n) (hashL (l.getD k ⟨#[]⟩).data.toList) M n := by
            rw [List.take_succ_eq_append_getElem (by rw [HHL.out]; exact hlt), putKeys_snoc]
            congr 1
            unfold hashes
            simp [List.getD, hlt]
          have HNX := Lib.hid hnx
          have hFk : (putKeys F0 ((hashes l).take k) M n).length = M := by rw [putKeys_len, HFL.out]
          generalize putKeys F0 ((hashes l).take k) M n = Fk at *
          have HFK := Lib.hid hFk
          generalize l.getD k ⟨#[]⟩ = str at *
          generalize hashL str.data.toList = h at *
          have HSP := Lib.hid (fun (j : Nat) (h1 : j ≤ 12) => spot_any (h := h) (m := M) (j := j) hh h1 (by omega) (by omega))
          unfold wayV at HSP HW
          obtain ⟨d, hd⟩ : ∃ d, rot17 h = d := ⟨_, rfl⟩
          rw [hd] at HSP HW
          clear hsc hsz hnx hFk hd
          obtain ⟨wa, hwa⟩ : ∃ wa, wa = wr := ⟨_, rfl⟩
          subst hwa
          go_wp2_with (go_at_call 24; (refine (HW.out _).mono ?_); rintro e w2 ⟨rfl, hbw⟩)
          obtain ⟨wB, hwB⟩ : ∃ wB, wB = w2.alloc (Obj.cells #[Value.int IntKind.u32 (h : Int), Value.int IntKind.u32 (d : Int)] 44) := ⟨_, rfl⟩
          have hEB : Below wa.heap.size wa wB := by
            rw [hwB]
            exact hbw.alloc hbw.size _
          have hbox : wB.heap[w2.heap.size]? = some (.cells #[.int .u32 (h : Int), .int .u32 (d : Int)] 44) := by
            rw [hwB]
            exact heap_alloc_new w2 _
          rw [← hwB]
          have hpW : w.heap.size < w2.heap.size := by
            obtain ⟨g, cap, cur, hg, _, hgl, _⟩ := HO.out.2.resolve_left (fun h => by cases h.1)
            cases hg
            have := blk_lt hgl
            have := hbw.size
            omega
          generalize w2.heap.size = p at *
          have HOB := Lib.hid (HO.out.below hEB (Nat.le_refl _))
          have HEB := Lib.hid (HB.out.trans (hEB.mono HB.out.size))
          have HBOX := Lib.hid hbox
          clear hwB hEB hbox hbw w2 HO HB
          go_wp2
          go_loopw [35] (fun j wq => ∃ i : Nat, i ≤ n ∧ j = .int .i64 (i : Int) ∧ Hid (OwnB wq w.heap.size 5 (.slice (some ⟨w.heap.size, 0, none⟩) M (M + 1)) (putBits Fk h M i)) ∧ Hid (Below w.heap.size w wq) ∧ Hid (wq.heap[p]? = some (.cells #[.int .u32 (h : Int), .int .u32 (d : Int)] 44))) (fun j _ => n - (intOf j).toNat)
          case atStart => exact ⟨0, Nat.zero_le _, rfl, HOB, HEB, HBOX⟩
          case round =>
            obtain ⟨j, hj, rfl, HOJ, HBJ, HXJ⟩ := hrel
            by_cases hjn : j < n
            · have hb0 := blk_cell (i := 0) HXJ.out
              have hb1 := blk_cell (i := 1) HXJ.out
              replace hb0 : wr.cell? ⟨p, 0, none⟩ = some (.int .u32 (h : Int)) := hb0
              replace hb1 : wr.cell? ⟨p, 1, none⟩ = some (.int .u32 (d : Int)) := hb1
              have hpl := blk_lt HXJ.out
              have hxl := bitX_lt (h := h) (m := M) (j := j) (by omega)
              have hsp := HSP.out j (by omega) wr
              have HSB := Lib.hid (putBits_succ Fk h M j)
              have hGl : (putBits Fk h M j).length = M := by rw [putBits_len, HFK.out]
              generalize putBits Fk h M j = G at *
              generalize bitX h M j = x at *
              have hset : setBit G x = G.set (x / 8) (UInt8.ofNat ((G.getD (x / 8) 0).toNat ||| 2 ^ (x % 8))) := rfl
              obtain ⟨q, hq⟩ : ∃ q, x / 8 = q := ⟨_, rfl⟩
              obtain ⟨t, ht⟩ : ∃ t, x % 8 = t := ⟨_, rfl⟩
              rw [hq, ht] at hset hsp
              have t3 : t < 8 := by omega
              have q3 : (q : Int) < (M : Int) := by omega
              have HCF := Lib.hid (fun w3 (ho : OwnB w3 w.heap.size 5 (.slice (some ⟨w.heap.size, 0, none⟩) M (M + 1)) G) => (show w3.cell? ⟨w.heap.size, q, none⟩ = some (.int .u8 ((G.getD q 0).toNat : Int)) ∧ w3.frozen? ⟨w.heap.size, q, none⟩ = false from ⟨ho.cellAt q (by omega), ho.frozenAt q⟩))
              have hcb := byte_le (G.getD q 0)
              have hp : 2 ^ t < 256 := Nat.lt_of_lt_of_le (Nat.pow_lt_pow_right (by omega) t3) (by decide)
              have hor := or_u8 (G.getD q 0).toNat (2 ^ t) (by omega) hp
              have hol : (G.getD q 0).toNat ||| 2 ^ t < 256 := Nat.or_lt_two_pow (n := 8) (by omega) hp
              have hbv : bv (UInt8.ofNat ((G.getD q 0).toNat ||| 2 ^ t)) = .int .u8 (((G.getD q 0).toNat ||| 2 ^ t : Nat) : Int) := by
                unfold bv
                rw [UInt8.toNat_ofNat', Nat.mod_eq_of_lt (by omega)]
              have HST := Lib.hid (fun w3 (ho : OwnB w3 w.heap.size 5 (.slice (some ⟨w.heap.size, 0, none⟩) M (M + 1)) G) => (show OwnB (w3.setCell ⟨w.heap.size, q, none⟩ (.int .u8 (((G.getD q 0).toNat ||| 2 ^ t : Nat) : Int))) w.heap.size 5 (.slice (some ⟨w.heap.size, 0, none⟩) M (M + 1)) (putBits Fk h M (j + 1)) by rw [HSB.out, hset, ← hbv]; exact ho.stored q _))
              generalize (G.getD q 0).toNat = c at *
              have hor' : bits .or .u8 (c : Int) ((2 ^ t : Nat) : Int) = ((c ||| 2 ^ t : Nat) : Int) := hor
              generalize hc3 : c ||| 2 ^ t = c3 at *
              generalize hBi : ((2 ^ t : Nat) : Int) = Bi at *
              have HSP2 := Lib.hid hsp
              clear hsp hq ht hset hbv hol hGl hBi hc3 hor hp
              go_wp2_with (go_at_call 25; (refine HSP2.out.mono ?_); rintro e w3 ⟨rfl, hb3⟩; have HO3 := Lib.hid (HOJ.out.below hb3 (Nat.le_refl _)); obtain ⟨hc3, hf3⟩ := HCF.out w3 HO3.out)
              exact ⟨⟨j + 1, hjn, by go_num, Lib.hid (HST.out w3 HO3.out), Lib.hid ((HBJ.out.trans (hb3.mono HBJ.out.size)).setCell (p := ⟨w.heap.size, q, none⟩) (Nat.le_refl _) _), Lib.hid ((Below.heap_setCell w3 ⟨w.heap.size, q, none⟩ _ p (show p ≠ w.heap.size by omega)).trans ((hb3.block p hpl).trans HXJ.out))⟩, by simp [intOf]; omega⟩
            · have hje : j = n := by omega
              subst hje
              clear hjn
              go_wp2
              refine ⟨⟨k + 1, hlt, by go_num, by rw [HNX.out]; exact HOJ, HBJ⟩, by simp [intOf]; omega⟩
        · have hke : k = l.length := by omega
          have HEND := Lib.hid (show makeL (hashes l) b = putKeys F0 ((hashes l).take k) M n ++ [UInt8.ofNat n] by rw [HMK.out, hke, List.take_of_length_le (by rw [HHL.out]; omega)])
          clear hke
          have hFk : (putKeys F0 ((hashes l).take k) M n).length = M := by rw [putKeys_len, HFL.out]
          generalize putKeys F0 ((hashes l).take k) M n = Fk at *
          have HFK := Lib.hid hFk
          clear hFk
          go_wp2_with (first | (go_at_call 26; (refine (HFX.out _).mono ?_); rintro e w2 ⟨u, rfl, hou, hbu⟩; have HOU := Lib.hid hou.read; have HBU := Lib.hid hbu; clear hou hbu) | (at_builtin; refine wpList_append_bytes rfl _ _ 24 rfl w.heap.size 5 Try.underlying24 info_u8 _ _ Fk [UInt8.ofNat n] rfl rfl ?ho ?hrd ?hB ?hlen ?hK))
          case ho => exact HO.out.below HBU.out (Nat.le_refl _)
          case hrd => exact HOU.out
          case hB => exact Nat.le_trans HB.out.size HBU.out.size
          case hlen => simp [HFK.out]; omega
          case hK =>
            intro v' w' hown' hb'
            go_wp2
            go_ret
            exact ⟨_, rfl, by rw [HEND.out]; exact hown', hb' _ _ (Nat.le_refl _) (HB.out.trans (HBU.out.mono HB.out.size))⟩
end Go.Proofs.Ytlgfodlimehppaa
