/-
  The walk of FilterGrows.
-/
import Derived.Test.YtlgfodlimehppaaFilGreat
import Derived.Test.YtlgfodlimehppaaFilByte
import Derived.Test.YtlgfodlimehppaaOpenS
import Derived.Test.YtlgfodlimehppaaRegion
import Derived.Test.YtlgfodlimehppaaAppKeep
namespace Go.Proofs.Ytlgfodlimehppaa
open Go.RowKit Ieee

theorem info_strF : (Try.prog.info? 9).map (fun i => (i.zero, i.size, i.bytes)) = some (some (.string ⟨#[]⟩), 1, 16) := by kernel_rfl
theorem str_oneF (l : List ByteArray) : ∀ u ∈ l.map Value.string, u.oneCell' = true := by
  intro u hu
  obtain ⟨x, _, rfl⟩ := List.mem_map.1 hu
  rfl
theorem rd_byte {w : World} {a : Option Addr} {c : Nat} {f : List UInt8} (h : RdB w (.slice a f.length c) f) {i : Nat} (hi : i < f.length) : ∃ b off, a = some ⟨b, off, none⟩ ∧ b < w.heap.size ∧ w.cell? ⟨b, off + i, none⟩ = some (bv (f.getD i 0)) := by
  obtain ⟨a', cap, hv, h1, h2, h0, h3⟩ := h
  cases hv
  rcases h3 with ⟨h3, _⟩ | ⟨b, off, rfl, h4, h5⟩
  · omega
  · exact ⟨b, off, rfl, h4, h5 i _ (by rw [List.getElem?_map, List.getElem?_eq_getElem hi]; simp [List.getD, hi])⟩

/-- The last ones, the last one first. -/
def backL (l : List ByteArray) (k : Nat) : List Value := (l.drop (l.length - k)).reverse.map Value.string
theorem backL_zero (l : List ByteArray) : backL l 0 = [] := by simp [backL]
theorem backL_succ {l : List ByteArray} {k : Nat} (h : k < l.length) : backL l (k + 1) = backL l k ++ [.string (l.getD (l.length - (k + 1)) ⟨#[]⟩)] := by
  unfold backL
  have h1 : l.length - (k + 1) < l.length := by omega
  rw [show l.drop (l.length - (k + 1)) = l.getD (l.length - (k + 1)) ⟨#[]⟩ :: l.drop (l.length - k) by
    rw [List.drop_eq_getElem_cons h1, show l.length - (k + 1) + 1 = l.length - k by omega]
    simp [List.getD, h1]]
  rw [List.reverse_cons, List.map_append]
  rfl
theorem backL_all (l : List ByteArray) : backL l l.length = l.reverse.map Value.string := by unfold backL; rw [Nat.sub_self, List.drop_zero]
theorem hashes_len (l : List ByteArray) : (hashes l).length = l.length := by unfold hashes; rw [List.length_map]
theorem hashes_rev_mem (l : List ByteArray) (k : Nat) : k ∈ hashes l.reverse ↔ k ∈ hashes l := by
  unfold hashes
  rw [List.map_reverse, List.mem_reverse]

/-- With one key more, and the other way round. -/
theorem grows_facts (l : List ByteArray) (m : ByteArray) (b : Nat) (hl : l.length ≤ 80) : ∃ F G, makeL (hashes l) b = F ∧ makeL (hashes l.reverse) b = F ∧ makeL (hashes (l.reverse ++ [m])) b = G ∧ (F.length = 0 → probesW b = 0) ∧ F.length ≤ G.length ∧
    (F.length = G.length → ∀ i, bits .andNot .u8 ((F.getD i 0).toNat : Int) ((G.getD i 0).toNat : Int) = 0) ∧ (F.length = G.length → F.getD (F.length - 1) 0 = G.getD (F.length - 1) 0) ∧ mayL G (hashL m.data.toList) = true ∧ F.length ≤ 100000 ∧ G.length ≤ 100000 := by
  refine ⟨_, _, rfl, makeL_same (by rw [hashes_len, hashes_len, List.length_reverse]) (hashes_rev_mem l), rfl, makeL_nil.1, ?_, ?_, ?_, ?_, makeL_few _ _ (by rw [hashes_len]; omega), makeL_few _ _ (by rw [hashes_len]; simp; omega)⟩
  · by_cases h0 : probesW b = 0
    · rw [makeL_nil.2 h0]
      exact Nat.zero_le _
    · rw [makeL_len h0, makeL_len h0]
      have := bytesM_mono b (n := (hashes l).length) (k := (hashes (l.reverse ++ [m])).length) (by rw [hashes_len, hashes_len]; simp)
      omega
  · intro he i
    apply bits_sub
    intro x hx
    by_cases h0 : probesW b = 0
    · have : makeL (hashes l) b = [] := List.eq_nil_of_length_eq_zero (makeL_nil.2 h0)
      rw [this] at hx
      rw [hasBit_eq] at hx
      simp at hx
    · rw [makeL_len h0, makeL_len h0] at he
      refine makeL_more h0 (fun k hk => ?_) (by omega) x hx
      unfold hashes
      rw [List.map_append, List.mem_append]
      exact .inl ((hashes_rev_mem l k).2 hk)
  · intro he
    by_cases h0 : probesW b = 0
    · have h1 : makeL (hashes l) b = [] := List.eq_nil_of_length_eq_zero (makeL_nil.2 h0)
      have h2 : makeL (hashes (l.reverse ++ [m])) b = [] := List.eq_nil_of_length_eq_zero (makeL_nil.2 h0)
      rw [h1, h2]
    · rw [makeL_len h0, makeL_len h0] at he
      rw [makeL_len h0, Nat.add_sub_cancel, makeL_last h0, show bytesM b (hashes l).length = bytesM b (hashes (l.reverse ++ [m])).length by omega, makeL_last h0]
  · apply makeL_has
    unfold hashes
    rw [List.map_append, List.mem_append]
    exact .inr (by simp)

set_option maxRecDepth 100000 in
set_option maxHeartbeats 8000000 in
theorem filterGrows_walkC (HP : ProbesC) (HM : MakeC) (HY : MayC) (v0 : Value) (l : List ByteArray) (m : ByteArray) (b : Nat) (W : World) (w0 : RdS W v0 l) (wm : m.size ≤ maxLen) (wb : (Lit.float .f64 b).wf = true) :
    Calls Try.prog 6 #[v0, .string m, .float .f64 b] W fun r w' => r = .returned (.bool true) ∧ Below W.heap.size W w' := by
  obtain ⟨va, vc, rfl, hc1, hc2⟩ : ∃ a c, v0 = .slice a l.length c ∧ l.length ≤ c ∧ c ≤ maxLen := by obtain ⟨a, c, h, h1, h2, _⟩ := w0.1; exact ⟨a, c, h, h1, h2⟩
  have HG := Lib.hid (great_any _ l W w0.1 w0.2)
  have HAW := Lib.hid (awake11_any HP)
  have HL := Lib.hid w0
  have HMc := Lib.hid (fun l v w h1 h2 h3 => HM v l b wb w h1 h2 h3)
  clear w0 
  by_cases g2 : 300 < m.size
  · have g2' : (300 : Int) < (m.size : Int) := by omega
    go_enter Try.func6, Try.ntmps6
    go_wp2_with (first | (go_at_call 7; (with_reducible refine HG.out.mono ?_); rintro e w1 ⟨⟨g, rfl, hg⟩, rfl⟩; cases g) | (go_at_call 8; (with_reducible refine (HAW.out _).mono ?_); rintro e w2 ⟨rfl, rfl⟩))
    all_goals go_ret
    all_goals exact ⟨rfl, Below.refl _ _⟩
  · have g2' : ¬ (300 : Int) < (m.size : Int) := by omega
    have g2'' : decide ((300 : Int) < (m.size : Int)) = false := by simpa using g2'
    by_cases g3 : l.length = 0
    · have hnil : l = [] := List.eq_nil_of_length_eq_zero g3
      subst hnil
      clear g3
      go_enter Try.func6, Try.ntmps6
      go_wp2_with (first | (go_at_call 7; (refine HG.out.mono ?_); rintro e w1 ⟨⟨g, rfl, hg⟩, rfl⟩; cases g) | (go_at_call 8; (with_reducible refine (HAW.out _).mono ?_); rintro e w2 ⟨rfl, rfl⟩))
      all_goals go_ret
      all_goals exact ⟨rfl, Below.refl _ _⟩
    · have g3' : ((l.length : Int) == 0) = false := by
        have : (l.length : Int) ≠ 0 := by omega
        simpa using this
      have hlw : l.length ≤ 80 → IntKind.i64.wrap ((l.length : Int) - 1) = (l.length : Int) - 1 := fun _ => IntWalk.i64_in _ (by omega)
      go_enter Try.func6, Try.ntmps6
      go_wp2_with (first | (go_at_call 7; (with_reducible refine HG.out.mono ?_); rintro e w1 ⟨⟨g, rfl, hg⟩, rfl⟩; cases g; (try have hlw2 := hlw (hg rfl))) | (go_at_call 8; (with_reducible refine (HAW.out _).mono ?_); rintro e w2 ⟨rfl, rfl⟩))
      rotate_left
      · go_ret
        exact ⟨rfl, Below.refl _ _⟩
      have HLN := Lib.hid (show l.length ≤ 80 from hg trivial)
      obtain ⟨F, G, hF, hR, hG, f1, f2, f3, f4, f5, f6, f7⟩ := grows_facts l m b HLN.out
      clear g2 g3 hg
      go_loopw [7, 8] (fun v i wr => ∃ (k : Nat) (u : Value), k ≤ l.length ∧ i = .int .i64 ((l.length : Int) - 1 - (k : Int)) ∧ u = v ∧ Hid (wr.ownsRow W.heap.size 9 1 u k (backL l k)) ∧ Hid (Below W.heap.size W wr)) (fun _ i _ => (intOf i + 1).toNat)
      case atStart => exact ⟨0, _, Nat.zero_le _, by simp, rfl, Lib.hid (by rw [backL_zero]; exact World.ownsRow_nil _ _ _ _), Lib.hid (Below.refl _ _)⟩
      case round =>
        obtain ⟨k, u, hk, rfl, rfl, HU, HB⟩ := hrel
        have hl80 := HLN.out
        by_cases hlt : k < l.length
        · obtain ⟨p, hp⟩ : ∃ p, p = l.length - (k + 1) := ⟨_, rfl⟩
          have hp1 : (l.length : Int) - 1 - (k : Int) = (p : Int) := by omega
          have hp2 : p < l.length := by omega
          obtain ⟨sb, so, rfl, hsb, hsc⟩ := rd_str HL.out.1 hp2
          have hsc' := (HB.out.cell (p := ⟨sb, so + p, none⟩) hsb).trans hsc
          have HRT := Lib.hid (backL_succ hlt)
          rw [← hp] at HRT
          generalize l.getD p ⟨#[]⟩ = str at *
          rw [hp1]
          have hszw := HB.out.size
          have hwp : IntKind.i64.wrap ((p : Int) - 1) = (p : Int) - 1 := IntWalk.i64_in _ (by omega)
          have hp3 : (p : Int) - 1 = (l.length : Int) - 1 - ((k + 1 : Nat) : Int) := by omega
          clear hsc hp f1 f2 f3 f4 f5 f6 f7
          go_wp2_with (at_builtin; refine wpList_append_keep rfl (.tmp 33) (.tmp 38) 22 rfl W.heap.size 9 1 16 (.string ⟨#[]⟩) Try.underlying22 info_strF rfl (by decide) u k 1 1 (backL l k) [.string str] wr.heap.size 0 rfl rfl (World.ownsRow.alloc HU.out _) rfl ?rd (str_oneF [str]) ?bb ?l1 ?l2 ?kk)
          case rd => exact fun j u hj => by rw [blk_cell (heap_alloc_new wr _)]; simpa using hj
          case bb => simp; omega
          case l1 => omega
          case l2 => unfold maxLen; omega
          case kk =>
            intro v' w' hown hBk _ _
            rw [← HRT.out] at hown
            have HO' := Lib.hid hown
            have HB' := Lib.hid (hBk W.heap.size W (Nat.le_refl _) (HB.out.alloc (by omega) _))
            clear hown hBk
            go_wp2
            exact ⟨⟨k + 1, v', by omega, by congr 1, rfl, HO', HB'⟩, by simp [intOf]; omega⟩
        · have hke : k = l.length := by omega
          subst hke
          have hneg : (l.length : Int) - 1 - (l.length : Int) = -1 := by omega
          rw [hneg]
          rw [backL_all] at HU
          have HRD := Lib.hid (rd_of_own HU.out)
          have HV := Lib.hid (HL.out.1.below HB.out (Nat.le_refl _))
          have HSR : Hid (∀ s ∈ l.reverse, s.size ≤ maxLen) := Lib.hid fun s hs => HL.out.2 s (List.mem_reverse.1 hs)
          have HSM : Hid (∀ s ∈ l.reverse ++ [m], s.size ≤ maxLen) := Lib.hid fun s hs => by
            rcases List.mem_append.1 hs with h | h
            · exact HSR.out s h
            · rw [List.mem_singleton] at h
              rw [h]; exact wm
          have HM1 := Lib.hid (HMc.out l _ wr HV.out HL.out.2 (by omega))
          rw [hF] at HM1
          have HCASE : Hid (F.length ≠ 0 ∨ (F.length = 0 ∧ double.order b b = none) ∨ (F.length = 0 ∧ double.order b b = some .eq ∧ FloatKind.f64.format.order b oneD = some .lt)) := Lib.hid (by
            by_cases hz : F.length = 0
            · have hp0 := f1 hz
              rcases probes_ways (b := b) (by simpa [Lit.wf] using wb) with ⟨h1, _⟩ | ⟨h1, h2, _⟩ | ⟨h1, h2, _⟩
              · exact .inr (.inl ⟨hz, order_nan h1 _⟩)
              · exact .inr (.inr ⟨hz, order_self h1, h2⟩)
              · exfalso
                rw [probesW_on h1 h2] at hp0
                omega
            · exact .inl hz)
          have HFA := Lib.hid (And.intro f1 (And.intro f2 (And.intro f3 (And.intro f4 (And.intro f5 (And.intro f6 f7))))))
          clear hlw hlw2 hneg f1 f2 f3 f4 f5 f6 f7
          go_wp2_with (first | (go_at_call 11; (with_reducible refine HM1.out.mono ?_); rintro e w1 ⟨p1, rfl, ho1, hb1⟩; (have HU1 := Lib.hid (own_below_f HU.out hb1 (Nat.le_refl _))); (have HB1 := Lib.hid (HB.out.trans (hb1.mono HB.out.size))); (have HF1 := Lib.hid ho1.read); (have HO1 := Lib.hid ho1); clear ho1 hb1; (obtain ⟨pa1, pc1, rfl, _, _⟩ := HF1.out.form)) | (at_builtin; refine wpList_append_keep rfl (.tmp 43) (.tmp 45) 22 rfl W.heap.size 9 1 16 (.string ⟨#[]⟩) Try.underlying22 info_strF rfl (by decide) u l.length 1 1 (l.reverse.map Value.string) [.string m] w1.heap.size 0 rfl rfl (World.ownsRow.alloc HU1.out _) rfl ?rd (str_oneF [m]) ?bb ?l1 ?l2 ?kk))
          case rd => exact fun j u hj => by rw [blk_cell (heap_alloc_new w1 _)]; simpa using hj
          case bb => have := HB1.out.size; simp; omega
          case l1 => omega
          case l2 => unfold maxLen; omega
          case kk =>
            intro v2 w2 hown hBk hrd2 hgr
            have hb2 := hBk W.heap.size W (Nat.le_refl _) (HB1.out.alloc HB1.out.size _)
            have HF2 := Lib.hid (show RdB w2 (.slice pa1 F.length pc1) F from rd_of_own (own_grown_f (own_below_f HO1.out ((Below.refl w1.heap.size w1).alloc (Nat.le_refl _) _) (Nat.le_refl _)) hgr fun k hk => (World.ownsRow.lt HU.out k hk).2))
            have HRD2 := Lib.hid hrd2
            have HM2 := Lib.hid (HMc.out (l.reverse ++ [m]) v2 w2 (by have := rd_of_own hown; simpa using this) HSM.out (by simp; omega))
            rw [hG] at HM2
            have HB2 := Lib.hid hb2
            clear hown hBk hrd2 hb2 hgr
            go_wp2_with (go_at_call 11; (with_reducible refine HM2.out.mono ?_); rintro e w3 ⟨p3, rfl, ho3, hb3⟩; (have HB3 := Lib.hid (HB2.out.trans (hb3.mono HB2.out.size))); (have HF3 := Lib.hid (HF2.out.below hb3 (Nat.le_refl _))); (have HG3 := Lib.hid ho3.read); (have HR3 := Lib.hid (HRD2.out.below hb3 (Nat.le_refl _))); clear ho3 hb3; (obtain ⟨pa3, pc3, rfl, _, _⟩ := HG3.out.form))
            have HM3 := Lib.hid (HMc.out l.reverse u w3 (by rw [List.length_reverse, List.map_reverse]; simpa using HR3.out) HSR.out (by rw [List.length_reverse]; omega))
            rw [hR] at HM3
            refine HM3.out.mono ?_
            rintro e w4 ⟨p4, rfl, ho4, hb4⟩
            have HB4 := Lib.hid (HB3.out.trans (hb4.mono HB3.out.size))
            have HF4 := Lib.hid (HF3.out.below hb4 (Nat.le_refl _))
            have HG4 := Lib.hid (HG3.out.below hb4 (Nat.le_refl _))
            have HH4 := Lib.hid ho4.read
            clear ho4 hb4
            obtain ⟨pa4, pc4, rfl, _, _⟩ := HH4.out.form
            have hcF := rdB_convert (P := Try.prog) HF4.out 24 5 9 Try.underlying24 Try.underlying5 Try.underlying9
            have hcH := rdB_convert (P := Try.prog) HH4.out 24 5 9 Try.underlying24 Try.underlying5 Try.underlying9
            have HN := Lib.hid (isNaN_any b)
            obtain ⟨f1, f2, f3, f4, f5, f6, f7⟩ := HFA.out
            obtain ⟨nf, hnf⟩ : ∃ n, F.length = n := ⟨_, rfl⟩
            obtain ⟨ng, hng⟩ : ∃ n, G.length = n := ⟨_, rfl⟩
            have HNF := Lib.hid hnf
            have HNG := Lib.hid hng
            have hca := HCASE.out
            rw [hnf] at hca f1 f2 f3 f4 f6 hcF hcH
            rw [hng] at f2 f3 f4 f7
            rw [hnf, hng]
            clear hnf hng
            rcases hca with hz | ⟨hz, hn1⟩ | ⟨hz, hn1, hn2⟩
            · have hzb : ((nf : Int) == 0) = false := by
                have : (nf : Int) ≠ 0 := by omega
                simpa using this
              by_cases he : nf = ng
              · subst he
                go_wp2_with (first | (go_at_call 19; (with_reducible refine (HN.out _).mono ?_); rintro e w5 ⟨rfl, rfl⟩) | (go_at_call 8; (with_reducible refine (HAW.out _).mono ?_); rintro e w5 ⟨rfl, rfl⟩))
                go_loopw [12] (fun i wr => ∃ k : Nat, k ≤ nf ∧ i = .int .i64 (k : Int) ∧ Hid (Ext w4 wr)) (fun i _ => nf - (intOf i).toNat)
                case atStart => exact ⟨0, Nat.zero_le _, rfl, Lib.hid (Below.refl _ _)⟩
                case round =>
                  obtain ⟨k, hk, rfl, HX⟩ := hrel
                  by_cases hkn : k < nf
                  · obtain ⟨w5, hw5⟩ : ∃ w5, w5 = wr.drew := ⟨_, rfl⟩
                    have hx5 : Ext w4 w5 := by rw [hw5]; exact Below.drew HX.out
                    have Hw5 := Lib.hid hw5
                    have HX5 := Lib.hid hx5
                    obtain ⟨b1, o1, rfl, hl1, hv1⟩ := rd_byte (HF4.out.below hx5 (Nat.le_refl _)) (i := k) (by rw [HNF.out]; exact hkn)
                    obtain ⟨b2, o2, rfl, hl2, hv2⟩ := rd_byte (HG4.out.below hx5 (Nat.le_refl _)) (i := k) (by rw [HNG.out]; exact hkn)
                    clear hw5 hx5
                    have hz3 := f3 trivial k
                    have hz4 := f4 trivial
                    have hw3 : IntKind.i64.wrap ((nf : Int) - 1) = (nf : Int) - 1 := IntWalk.i64_in _ (by omega)
                    have hw4 : IntKind.i64.wrap ((k : Int) + 1) = (k : Int) + 1 := IntWalk.i64_in _ (by omega)
                    have hcb1 := byte_le (F.getD k 0)
                    have hcb2 := byte_le (G.getD k 0)
                    have hkp : nf - 1 = k → (F.getD k 0) = (G.getD k 0) := fun e => by rw [← e]; exact hz4
                    clear hz4 hcF hcH
                    unfold bv at hv1 hv2
                    by_cases hlast : nf - 1 = k
                    · have hk2 : (nf : Int) - 1 = (k : Int) := by omega
                      have he2 := hkp hlast
                      rw [he2] at hv1 hz3
                      rw [hk2] at hw3
                      have hnn : ¬ (k : Int) < (k : Int) := by omega
                      clear hkp he2
                      generalize (G.getD k 0).toNat = c2 at *
                      go_wp2
                      refine wp_region_plan [(true, 0), (true, 1), (true, 2), (true, 3), (true, 4), (true, 5), (true, 6), (true, 7), (true, 8), (true, 9), (true, 10), (true, 11), (true, 12), (true, 13), (true, 14), (true, 15), (true, 16), (true, 17), (true, 18), (true, 19), (true, 20), (true, 21), (true, 22), (true, 23), (true, 24), (true, 25), (true, 26), (true, 27), (true, 28), (true, 29), (true, 30), (true, 31), (true, 32), (true, 33), (true, 34)] (by kernel_rfl) (by kernel_rfl) (by kernel_rfl) (by kernel_rfl) (by kernel_rfl) ?_
                      simp only [planO, List.drop_succ_cons, List.drop_zero]
                      rw [← Hw5.out]
                      refine PlanO.take (v := ?vL0) (by kernel_rfl) ?yL0 ?rL0
                      case yL0 => (intro wz hz; go_simp; try with_reducible rfl)
                      (try simp only [Act.put, List.setIfInBounds_toArray, List.set_cons_zero, List.set_cons_succ])
                      refine PlanO.take (v := ?vL1) (by kernel_rfl) ?yL1 ?rL1
                      case yL1 => (intro wz hz; go_simp; try with_reducible rfl)
                      (try simp only [Act.put, List.setIfInBounds_toArray, List.set_cons_zero, List.set_cons_succ])
                      refine PlanO.take (v := ?vL2) (by kernel_rfl) ?yL2 ?rL2
                      case yL2 => (intro wz hz; go_simp; try with_reducible rfl)
                      (try simp only [Act.put, List.setIfInBounds_toArray, List.set_cons_zero, List.set_cons_succ])
                      refine PlanO.take (v := ?vL3) (by kernel_rfl) ?yL3 ?rL3
                      case yL3 => (intro wz hz; go_simp; try with_reducible rfl)
                      (try simp only [Act.put, List.setIfInBounds_toArray, List.set_cons_zero, List.set_cons_succ])
                      refine PlanO.take (v := .bool false) (by kernel_rfl) ?yL4 ?rL4
                      case yL4 => (intro wz hz; go_simp; try simp)
                      (try simp only [Act.put, List.setIfInBounds_toArray, List.set_cons_zero, List.set_cons_succ])
                      refine PlanO.take (v := .bool false) (by kernel_rfl) ?yL5 ?rL5
                      case yL5 => (intro wz hz; go_simp; try simp)
                      (try simp only [Act.put, List.setIfInBounds_toArray, List.set_cons_zero, List.set_cons_succ])
                      refine PlanO.skip (by kernel_rfl) ?_
                      (try simp only [Act.put, List.setIfInBounds_toArray, List.set_cons_zero, List.set_cons_succ])
                      refine PlanO.skip (by kernel_rfl) ?_
                      (try simp only [Act.put, List.setIfInBounds_toArray, List.set_cons_zero, List.set_cons_succ])
                      refine PlanO.skip (by kernel_rfl) ?_
                      (try simp only [Act.put, List.setIfInBounds_toArray, List.set_cons_zero, List.set_cons_succ])
                      refine PlanO.skip (by kernel_rfl) ?_
                      (try simp only [Act.put, List.setIfInBounds_toArray, List.set_cons_zero, List.set_cons_succ])
                      refine PlanO.skip (by kernel_rfl) ?_
                      (try simp only [Act.put, List.setIfInBounds_toArray, List.set_cons_zero, List.set_cons_succ])
                      refine PlanO.skip (by kernel_rfl) ?_
                      (try simp only [Act.put, List.setIfInBounds_toArray, List.set_cons_zero, List.set_cons_succ])
                      refine PlanO.skip (by kernel_rfl) ?_
                      (try simp only [Act.put, List.setIfInBounds_toArray, List.set_cons_zero, List.set_cons_succ])
                      refine PlanO.skip (by kernel_rfl) ?_
                      (try simp only [Act.put, List.setIfInBounds_toArray, List.set_cons_zero, List.set_cons_succ])
                      refine PlanO.skip (by kernel_rfl) ?_
                      (try simp only [Act.put, List.setIfInBounds_toArray, List.set_cons_zero, List.set_cons_succ])
                      refine PlanO.skip (by kernel_rfl) ?_
                      (try simp only [Act.put, List.setIfInBounds_toArray, List.set_cons_zero, List.set_cons_succ])
                      refine PlanO.take (v := .bool false) (by kernel_rfl) ?yL16 ?rL16
                      case yL16 => (intro wz hz; go_simp; try simp)
                      (try simp only [Act.put, List.setIfInBounds_toArray, List.set_cons_zero, List.set_cons_succ])
                      refine PlanO.take (v := .bool false) (by kernel_rfl) ?yL17 ?rL17
                      case yL17 => (intro wz hz; go_simp; try simp)
                      (try simp only [Act.put, List.setIfInBounds_toArray, List.set_cons_zero, List.set_cons_succ])
                      refine PlanO.take (v := ?vL18) (by kernel_rfl) ?yL18 ?rL18
                      case yL18 => (intro wz hz; go_simp; try with_reducible rfl)
                      (try simp only [Act.put, List.setIfInBounds_toArray, List.set_cons_zero, List.set_cons_succ])
                      refine PlanO.take (v := ?vL19) (by kernel_rfl) ?yL19 ?rL19
                      case yL19 => (intro wz hz; go_simp; try with_reducible rfl)
                      (try simp only [Act.put, List.setIfInBounds_toArray, List.set_cons_zero, List.set_cons_succ])
                      refine PlanO.take (v := ?vL20) (by kernel_rfl) ?yL20 ?rL20
                      case yL20 => (intro wz hz; go_simp; try with_reducible rfl)
                      (try simp only [Act.put, List.setIfInBounds_toArray, List.set_cons_zero, List.set_cons_succ])
                      refine PlanO.take (v := ?vL21) (by kernel_rfl) ?yL21 ?rL21
                      case yL21 => (intro wz hz; go_simp; try with_reducible rfl)
                      (try simp only [Act.put, List.setIfInBounds_toArray, List.set_cons_zero, List.set_cons_succ])
                      refine PlanO.take (v := .bool true) (by kernel_rfl) ?yL22 ?rL22
                      case yL22 => (intro wz hz; go_simp; try simp)
                      (try simp only [Act.put, List.setIfInBounds_toArray, List.set_cons_zero, List.set_cons_succ])
                      refine PlanO.take (v := .bool true) (by kernel_rfl) ?yL23 ?rL23
                      case yL23 => (intro wz hz; go_simp; try simp)
                      (try simp only [Act.put, List.setIfInBounds_toArray, List.set_cons_zero, List.set_cons_succ])
                      refine PlanO.take (v := ?vL24) (by kernel_rfl) ?yL24 ?rL24
                      case yL24 => (intro wz hz; go_simp; try with_reducible rfl)
                      (try simp only [Act.put, List.setIfInBounds_toArray, List.set_cons_zero, List.set_cons_succ])
                      refine PlanO.take (v := ?vL25) (by kernel_rfl) ?yL25 ?rL25
                      case yL25 => (intro wz hz; go_simp; try with_reducible rfl)
                      (try simp only [Act.put, List.setIfInBounds_toArray, List.set_cons_zero, List.set_cons_succ])
                      refine PlanO.take (v := ?vL26) (by kernel_rfl) ?yL26 ?rL26
                      case yL26 => (intro wz hz; go_simp; try with_reducible rfl)
                      (try simp only [Act.put, List.setIfInBounds_toArray, List.set_cons_zero, List.set_cons_succ])
                      refine PlanO.take (v := ?vL27) (by kernel_rfl) ?yL27 ?rL27
                      case yL27 => (intro wz hz; have q1 := (hz.cell (p := ⟨b1, o1 + k, none⟩) hl1).trans hv1; go_simp; try with_reducible rfl)
                      (try simp only [Act.put, List.setIfInBounds_toArray, List.set_cons_zero, List.set_cons_succ])
                      refine PlanO.take (v := ?vL28) (by kernel_rfl) ?yL28 ?rL28
                      case yL28 => (intro wz hz; go_simp; try with_reducible rfl)
                      (try simp only [Act.put, List.setIfInBounds_toArray, List.set_cons_zero, List.set_cons_succ])
                      refine PlanO.take (v := ?vL29) (by kernel_rfl) ?yL29 ?rL29
                      case yL29 => (intro wz hz; go_simp; try with_reducible rfl)
                      (try simp only [Act.put, List.setIfInBounds_toArray, List.set_cons_zero, List.set_cons_succ])
                      refine PlanO.take (v := ?vL30) (by kernel_rfl) ?yL30 ?rL30
                      case yL30 => (intro wz hz; go_simp; try with_reducible rfl)
                      (try simp only [Act.put, List.setIfInBounds_toArray, List.set_cons_zero, List.set_cons_succ])
                      refine PlanO.take (v := ?vL31) (by kernel_rfl) ?yL31 ?rL31
                      case yL31 => (intro wz hz; have q2 := (hz.cell (p := ⟨b2, o2 + k, none⟩) hl2).trans hv2; go_simp; try with_reducible rfl)
                      (try simp only [Act.put, List.setIfInBounds_toArray, List.set_cons_zero, List.set_cons_succ])
                      refine PlanO.take (v := .bool false) (by kernel_rfl) ?yL32 ?rL32
                      case yL32 => (intro wz hz; go_simp; try simp)
                      (try simp only [Act.put, List.setIfInBounds_toArray, List.set_cons_zero, List.set_cons_succ])
                      refine PlanO.take (v := .bool false) (by kernel_rfl) ?yL33 ?rL33
                      case yL33 => (intro wz hz; go_simp; try simp)
                      (try simp only [Act.put, List.setIfInBounds_toArray, List.set_cons_zero, List.set_cons_succ])
                      refine PlanO.take (v := .bool false) (by kernel_rfl) ?yL34 ?rL34
                      case yL34 => (intro wz hz; go_simp; try simp)
                      (try simp only [Act.put, List.setIfInBounds_toArray, List.set_cons_zero, List.set_cons_succ])
                      refine PlanO.done (NoPanic.normal ?_)
                      go_wp2
                      exact ⟨⟨k + 1, hkn, by go_num, HX5⟩, by simp [intOf]; omega⟩
                    · have hk2 : (k : Int) < (nf : Int) - 1 := by omega
                      have hk3 : ((k : Int) == (nf : Int) - 1) = false := by
                        have : (k : Int) ≠ (nf : Int) - 1 := by omega
                        simpa using this
                      clear hkp
                      generalize (F.getD k 0).toNat = c1 at *
                      generalize (G.getD k 0).toNat = c2 at *
                      go_wp2
                      refine wp_region_plan [(true, 0), (true, 1), (true, 2), (true, 3), (true, 4), (true, 5), (true, 6), (true, 7), (true, 8), (true, 9), (true, 10), (true, 11), (true, 12), (true, 13), (true, 14), (true, 15), (true, 16), (true, 17), (true, 18), (true, 19), (true, 20), (true, 21), (true, 22), (true, 23), (true, 24), (true, 25), (true, 26), (true, 27), (true, 28), (true, 29), (true, 30), (true, 31), (true, 32), (true, 33), (true, 34)] (by kernel_rfl) (by kernel_rfl) (by kernel_rfl) (by kernel_rfl) (by kernel_rfl) ?_
                      simp only [planO, List.drop_succ_cons, List.drop_zero]
                      rw [← Hw5.out]
                      refine PlanO.take (v := ?vM0) (by kernel_rfl) ?yM0 ?rM0
                      case yM0 => (intro wz hz; go_simp; try with_reducible rfl)
                      (try simp only [Act.put, List.setIfInBounds_toArray, List.set_cons_zero, List.set_cons_succ])
                      refine PlanO.take (v := ?vM1) (by kernel_rfl) ?yM1 ?rM1
                      case yM1 => (intro wz hz; go_simp; try with_reducible rfl)
                      (try simp only [Act.put, List.setIfInBounds_toArray, List.set_cons_zero, List.set_cons_succ])
                      refine PlanO.take (v := ?vM2) (by kernel_rfl) ?yM2 ?rM2
                      case yM2 => (intro wz hz; go_simp; try with_reducible rfl)
                      (try simp only [Act.put, List.setIfInBounds_toArray, List.set_cons_zero, List.set_cons_succ])
                      refine PlanO.take (v := ?vM3) (by kernel_rfl) ?yM3 ?rM3
                      case yM3 => (intro wz hz; go_simp; try with_reducible rfl)
                      (try simp only [Act.put, List.setIfInBounds_toArray, List.set_cons_zero, List.set_cons_succ])
                      refine PlanO.take (v := .bool true) (by kernel_rfl) ?yM4 ?rM4
                      case yM4 => (intro wz hz; go_simp; try simp)
                      (try simp only [Act.put, List.setIfInBounds_toArray, List.set_cons_zero, List.set_cons_succ])
                      refine PlanO.take (v := .bool true) (by kernel_rfl) ?yM5 ?rM5
                      case yM5 => (intro wz hz; go_simp; try simp)
                      (try simp only [Act.put, List.setIfInBounds_toArray, List.set_cons_zero, List.set_cons_succ])
                      refine PlanO.take (v := ?vM6) (by kernel_rfl) ?yM6 ?rM6
                      case yM6 => (intro wz hz; go_simp; try with_reducible rfl)
                      (try simp only [Act.put, List.setIfInBounds_toArray, List.set_cons_zero, List.set_cons_succ])
                      refine PlanO.take (v := ?vM7) (by kernel_rfl) ?yM7 ?rM7
                      case yM7 => (intro wz hz; go_simp; try with_reducible rfl)
                      (try simp only [Act.put, List.setIfInBounds_toArray, List.set_cons_zero, List.set_cons_succ])
                      refine PlanO.take (v := ?vM8) (by kernel_rfl) ?yM8 ?rM8
                      case yM8 => (intro wz hz; go_simp; try with_reducible rfl)
                      (try simp only [Act.put, List.setIfInBounds_toArray, List.set_cons_zero, List.set_cons_succ])
                      refine PlanO.take (v := ?vM9) (by kernel_rfl) ?yM9 ?rM9
                      case yM9 => (intro wz hz; have q1 := (hz.cell (p := ⟨b1, o1 + k, none⟩) hl1).trans hv1; go_simp; try with_reducible rfl)
                      (try simp only [Act.put, List.setIfInBounds_toArray, List.set_cons_zero, List.set_cons_succ])
                      refine PlanO.take (v := ?vM10) (by kernel_rfl) ?yM10 ?rM10
                      case yM10 => (intro wz hz; go_simp; try with_reducible rfl)
                      (try simp only [Act.put, List.setIfInBounds_toArray, List.set_cons_zero, List.set_cons_succ])
                      refine PlanO.take (v := ?vM11) (by kernel_rfl) ?yM11 ?rM11
                      case yM11 => (intro wz hz; go_simp; try with_reducible rfl)
                      (try simp only [Act.put, List.setIfInBounds_toArray, List.set_cons_zero, List.set_cons_succ])
                      refine PlanO.take (v := ?vM12) (by kernel_rfl) ?yM12 ?rM12
                      case yM12 => (intro wz hz; go_simp; try with_reducible rfl)
                      (try simp only [Act.put, List.setIfInBounds_toArray, List.set_cons_zero, List.set_cons_succ])
                      refine PlanO.take (v := ?vM13) (by kernel_rfl) ?yM13 ?rM13
                      case yM13 => (intro wz hz; have q2 := (hz.cell (p := ⟨b2, o2 + k, none⟩) hl2).trans hv2; go_simp; try with_reducible rfl)
                      (try simp only [Act.put, List.setIfInBounds_toArray, List.set_cons_zero, List.set_cons_succ])
                      refine PlanO.take (v := .int .u8 0) (by kernel_rfl) ?yM14 ?rM14
                      case yM14 => (intro wz hz; go_simp; try simp)
                      (try simp only [Act.put, List.setIfInBounds_toArray, List.set_cons_zero, List.set_cons_succ])
                      refine PlanO.take (v := .bool false) (by kernel_rfl) ?yM15 ?rM15
                      case yM15 => (intro wz hz; go_simp; try simp)
                      (try simp only [Act.put, List.setIfInBounds_toArray, List.set_cons_zero, List.set_cons_succ])
                      refine PlanO.take (v := .bool false) (by kernel_rfl) ?yM16 ?rM16
                      case yM16 => (intro wz hz; go_simp; try simp)
                      (try simp only [Act.put, List.setIfInBounds_toArray, List.set_cons_zero, List.set_cons_succ])
                      refine PlanO.take (v := .bool false) (by kernel_rfl) ?yM17 ?rM17
                      case yM17 => (intro wz hz; go_simp; try simp)
                      (try simp only [Act.put, List.setIfInBounds_toArray, List.set_cons_zero, List.set_cons_succ])
                      refine PlanO.take (v := ?vM18) (by kernel_rfl) ?yM18 ?rM18
                      case yM18 => (intro wz hz; go_simp; try with_reducible rfl)
                      (try simp only [Act.put, List.setIfInBounds_toArray, List.set_cons_zero, List.set_cons_succ])
                      refine PlanO.take (v := ?vM19) (by kernel_rfl) ?yM19 ?rM19
                      case yM19 => (intro wz hz; go_simp; try with_reducible rfl)
                      (try simp only [Act.put, List.setIfInBounds_toArray, List.set_cons_zero, List.set_cons_succ])
                      refine PlanO.take (v := ?vM20) (by kernel_rfl) ?yM20 ?rM20
                      case yM20 => (intro wz hz; go_simp; try with_reducible rfl)
                      (try simp only [Act.put, List.setIfInBounds_toArray, List.set_cons_zero, List.set_cons_succ])
                      refine PlanO.take (v := ?vM21) (by kernel_rfl) ?yM21 ?rM21
                      case yM21 => (intro wz hz; go_simp; try with_reducible rfl)
                      (try simp only [Act.put, List.setIfInBounds_toArray, List.set_cons_zero, List.set_cons_succ])
                      refine PlanO.take (v := .bool false) (by kernel_rfl) ?yM22 ?rM22
                      case yM22 => (intro wz hz; go_simp; try simp)
                      (try simp only [Act.put, List.setIfInBounds_toArray, List.set_cons_zero, List.set_cons_succ])
                      refine PlanO.take (v := .bool false) (by kernel_rfl) ?yM23 ?rM23
                      case yM23 => (intro wz hz; go_simp; try simp)
                      (try simp only [Act.put, List.setIfInBounds_toArray, List.set_cons_zero, List.set_cons_succ])
                      refine PlanO.skip (by kernel_rfl) ?_
                      (try simp only [Act.put, List.setIfInBounds_toArray, List.set_cons_zero, List.set_cons_succ])
                      refine PlanO.skip (by kernel_rfl) ?_
                      (try simp only [Act.put, List.setIfInBounds_toArray, List.set_cons_zero, List.set_cons_succ])
                      refine PlanO.skip (by kernel_rfl) ?_
                      (try simp only [Act.put, List.setIfInBounds_toArray, List.set_cons_zero, List.set_cons_succ])
                      refine PlanO.skip (by kernel_rfl) ?_
                      (try simp only [Act.put, List.setIfInBounds_toArray, List.set_cons_zero, List.set_cons_succ])
                      refine PlanO.skip (by kernel_rfl) ?_
                      (try simp only [Act.put, List.setIfInBounds_toArray, List.set_cons_zero, List.set_cons_succ])
                      refine PlanO.skip (by kernel_rfl) ?_
                      (try simp only [Act.put, List.setIfInBounds_toArray, List.set_cons_zero, List.set_cons_succ])
                      refine PlanO.skip (by kernel_rfl) ?_
                      (try simp only [Act.put, List.setIfInBounds_toArray, List.set_cons_zero, List.set_cons_succ])
                      refine PlanO.skip (by kernel_rfl) ?_
                      (try simp only [Act.put, List.setIfInBounds_toArray, List.set_cons_zero, List.set_cons_succ])
                      refine PlanO.skip (by kernel_rfl) ?_
                      (try simp only [Act.put, List.setIfInBounds_toArray, List.set_cons_zero, List.set_cons_succ])
                      refine PlanO.take (v := .bool false) (by kernel_rfl) ?yM33 ?rM33
                      case yM33 => (intro wz hz; go_simp; try simp)
                      (try simp only [Act.put, List.setIfInBounds_toArray, List.set_cons_zero, List.set_cons_succ])
                      refine PlanO.take (v := .bool false) (by kernel_rfl) ?yM34 ?rM34
                      case yM34 => (intro wz hz; go_simp; try simp)
                      (try simp only [Act.put, List.setIfInBounds_toArray, List.set_cons_zero, List.set_cons_succ])
                      refine PlanO.done (NoPanic.normal ?_)
                      go_wp2
                      exact ⟨⟨k + 1, hkn, by go_num, HX5⟩, by simp [intOf]; omega⟩
                  · have hke : ¬ (k : Int) < (nf : Int) := by omega
                    have hm5 := f5
                    have HMY := Lib.hid (HY _ G m wm wr (by have h := HG4.out.below HX.out (Nat.le_refl _); exact h) (by rw [HNG.out]; exact f7))
                    rw [hm5] at HMY
                    rw [HNG.out] at HMY
                    clear hm5
                    go_wp2_with (first | (go_at_call 13; (with_reducible refine HMY.out.mono ?_); rintro e w5 ⟨rfl, hb5⟩) | (go_at_call 8; (with_reducible refine (HAW.out _).mono ?_); rintro e w6 ⟨rfl, rfl⟩))
                    go_ret
                    exact ⟨rfl, (HB4.out.trans (HX.out.mono HB4.out.size)).trans (hb5.mono (HB4.out.trans (HX.out.mono HB4.out.size)).size)⟩
              · have hlt2 : (nf : Int) < (ng : Int) := by omega
                have heb : ((nf : Int) == (ng : Int)) = false := by
                  have : (nf : Int) ≠ (ng : Int) := by omega
                  simpa using this
                clear he
                go_wp2_with (first | (go_at_call 19; (with_reducible refine (HN.out _).mono ?_); rintro e w5 ⟨rfl, rfl⟩) | (go_at_call 8; (with_reducible refine (HAW.out _).mono ?_); rintro e w5 ⟨rfl, rfl⟩))
                go_ret
                exact ⟨rfl, HB4.out⟩
            · subst hz
              rw [hn1] at HN
              by_cases he : 0 = ng
              · subst he
                go_wp2_with (first | (go_at_call 19; (with_reducible refine (HN.out _).mono ?_); rintro e w5 ⟨rfl, rfl⟩) | (go_at_call 8; (with_reducible refine (HAW.out _).mono ?_); rintro e w5 ⟨rfl, rfl⟩))
                go_loop [12] (fun i => i = .int .i64 0) (fun _ => 0)
                case atStart => rfl
                case round =>
                  subst hrel
                  have hm5 := f5
                  have HMY := Lib.hid (HY _ G m wm w4 (by have h := HG4.out; exact h) (by rw [HNG.out]; exact f7))
                  rw [hm5] at HMY
                  rw [HNG.out] at HMY
                  clear hm5
                  go_wp2_with (first | (go_at_call 13; (with_reducible refine HMY.out.mono ?_); rintro e w5 ⟨rfl, hb5⟩) | (go_at_call 8; (with_reducible refine (HAW.out _).mono ?_); rintro e w6 ⟨rfl, rfl⟩))
                  go_ret
                  exact ⟨rfl, (HB4.out).trans (hb5.mono (HB4.out).size)⟩
              · have hlt2 : (0 : Int) < (ng : Int) := by omega
                have heb : ((0 : Int) == (ng : Int)) = false := by
                  have : (0 : Int) ≠ (ng : Int) := by omega
                  simpa using this
                clear he
                go_wp2_with (first | (go_at_call 19; (with_reducible refine (HN.out _).mono ?_); rintro e w5 ⟨rfl, rfl⟩) | (go_at_call 8; (with_reducible refine (HAW.out _).mono ?_); rintro e w5 ⟨rfl, rfl⟩))
                go_ret
                exact ⟨rfl, HB4.out⟩
            · subst hz
              rw [hn1] at HN
              by_cases he : 0 = ng
              · subst he
                go_wp2_with (first | (go_at_call 19; (with_reducible refine (HN.out _).mono ?_); rintro e w5 ⟨rfl, rfl⟩) | (go_at_call 8; (with_reducible refine (HAW.out _).mono ?_); rintro e w5 ⟨rfl, rfl⟩))
                go_loop [12] (fun i => i = .int .i64 0) (fun _ => 0)
                case atStart => rfl
                case round =>
                  subst hrel
                  have hm5 := f5
                  have HMY := Lib.hid (HY _ G m wm w4 (by have h := HG4.out; exact h) (by rw [HNG.out]; exact f7))
                  rw [hm5] at HMY
                  rw [HNG.out] at HMY
                  clear hm5
                  go_wp2_with (first | (go_at_call 13; (with_reducible refine HMY.out.mono ?_); rintro e w5 ⟨rfl, hb5⟩) | (go_at_call 8; (with_reducible refine (HAW.out _).mono ?_); rintro e w6 ⟨rfl, rfl⟩))
                  go_ret
                  exact ⟨rfl, (HB4.out).trans (hb5.mono (HB4.out).size)⟩
              · have hlt2 : (0 : Int) < (ng : Int) := by omega
                have heb : ((0 : Int) == (ng : Int)) = false := by
                  have : (0 : Int) ≠ (ng : Int) := by omega
                  simpa using this
                clear he
                go_wp2_with (first | (go_at_call 19; (with_reducible refine (HN.out _).mono ?_); rintro e w5 ⟨rfl, rfl⟩) | (go_at_call 8; (with_reducible refine (HAW.out _).mono ?_); rintro e w5 ⟨rfl, rfl⟩))
                go_ret
                exact ⟨rfl, HB4.out⟩
end Go.Proofs.Ytlgfodlimehppaa
