/- The laws of layer 4 (keys), walked: call by call. -/
import Derived.Test.YtaicfgjipekooaaKyR
import Derived.Deep.CutRange
namespace Go.Proofs.Ytaicfgjipekooaa
open Go.ChangeShapes Go.WideShapes Go.ChangeAt Go.RowKit
theorem infoS : (Try.prog.info? 9).map (fun i => (i.zero, i.size, i.bytes)) = some (some (.string ⟨#[]⟩), 1, 16) := by kernel_rfl
theorem infoB : (Try.prog.info? 4).map (fun i => (i.zero, i.size, i.bytes)) = some (some (.bool false), 1, 1) := by kernel_rfl
theorem infoI : (Try.prog.info? 3).map (fun i => (i.zero, i.size, i.bytes)) = some (some (.int .i64 0), 1, 8) := by kernel_rfl
theorem rev_take {N k : Nat} (h : k < N) : (List.range N).reverse.take (k + 1) = (List.range N).reverse.take k ++ [N - 1 - k] := by
  rw [List.take_succ_eq_append_getElem (by simpa using h)]
  simp
theorem KeysIn.fr {W w : World} {F : Nat → Prop} {b gb gs gf n : Nat} {fl : List Nat} {K : Nat → Option ByteArray} (h : KeysIn W b gb gs gf n fl K) (hf : Fr F W w) (hF : ¬ F b ∧ ¬ F gb ∧ ¬ F gs ∧ ¬ F gf) : KeysIn w b gb gs gf n fl K := by
  obtain ⟨bs, ss, fs, h⟩ := h
  exact ⟨bs, ss, fs, h.hb.fr hf hF.1, h.hgb.fr hf hF.2.1, h.hgs.fr hf hF.2.2.1, h.hgf.fr hf hF.2.2.2, h.lb, h.ls, h.lf, h.vs, h.vf, h.vb, h.pl, h.n1, h.ne⟩
theorem isB_no {K : Nat → Option ByteArray} {n : Nat} {i : Int} {s : ByteArray} (hh : hasB K n i = false) : isB K n i s = false := by
  unfold hasB at hh; unfold isB
  cases h1 : decide (0 ≤ i) <;> cases h2 : decide (i < (n : Int)) <;> simp_all
theorem hasC_new (N : Nat) : (List.replicate N (Value.bool false)).toArray = hasC (fun _ => none) N := by
  unfold hasC
  congr 1
  apply List.ext_getElem
  · simp
  · intro i h1 h2; simp
theorem strC_new (N : Nat) : (List.replicate N (Value.string ⟨#[]⟩)).toArray = strC (List.replicate N ⟨#[]⟩) := by
  unfold strC; rw [List.map_replicate]
set_option maxHeartbeats 8000000 in
set_option maxRecDepth 100000 in
theorem runs_law (w : World) (a : Int) (A : Option Addr) (m c : Nat) (x y : Nat → Int) (ky : Nat → ByteArray) (ha : -9223372036854775808 ≤ a ∧ a ≤ 9223372036854775807) (hr : RdK w A m c x y ky) :
    Calls Try.prog 3 #[.int .i64 a, .slice A m c] w fun e w' => e = .returned (.bool true) ∧ Below w.heap.size w w' := by
  have hmx := hr.max
  unfold maxLen at hmx
  have hcp := hr.cap
  obtain ⟨N, hN⟩ : ∃ k : Nat, a % 16 = (k : Int) := ⟨(a % 16).toNat, by omega⟩
  have e1 : bits .and .i64 a 15 = (N : Int) := by rw [i64_mask4, hN]
  have hNb : N ≤ 15 := by omega
  by_cases hn : (200 : Int) < (m : Int)
  · clear hr hN ha
    go_enter Try.func3, Try.ntmps3
    go_wp2_with (go_at_call 7; refine (fit_any _).mono ?_; rintro e w1 ⟨rfl, b1⟩)
    go_ret
    exact ⟨rfl, b1⟩
  have hm2 : (m : Int) ≤ 200 := by omega
  have C1 := Lib.hid (fun w => new_yes N (by omega) w)
  have HR := Lib.hid hr
  clear hr hN ha hn
  go_enter Try.func3, Try.ntmps3
  go_upto_region 7 with (first
    | (go_at_call 7; refine (fit_any _).mono ?_; rintro e w1 ⟨rfl, b1⟩; have B1 := Lib.hid b1; clear b1)
    | (go_at_call 8; ((with_reducible refine (C1.out _).mono ?_); rintro e w2 ⟨b, gb, gs, gf, rfl, hb, b2, hbb⟩; have HB := Lib.hid hb; have B2 := Lib.hid (G.below_on B1.out b2); have HK := Lib.hid (fun k (hk : kyF b gb gs gf k) => (show w.heap.size ≤ k by have := B1.out.size; rcases hk with h | h | h | h <;> omega)); have HLT := Lib.hid hb.lt; clear hb b2 hbb)))
  obtain ⟨iS, hS, hS0, hS1, hS2⟩ := info_parts infoS
  obtain ⟨iB, hB, hB0, hB1, hB2⟩ := info_parts infoB
  have mk1 := G.make_one (P := Try.prog) Try.underlying26 hS hS0 rfl hS1 hS2 N (by omega) (by omega)
  have mk2 := G.make_one (P := Try.prog) Try.underlying27 hB hB0 rfl hB1 hB2 N (by omega) (by omega)
  rw [strC_new] at mk1
  rw [hasC_new] at mk2
  go_upto_region 8 with (fail)
  obtain ⟨w3, e3, r3, b3, s3⟩ := box_new w2 (strC (List.replicate N ⟨#[]⟩)) 9
  rw [e3]
  obtain ⟨mb, hmb⟩ : ∃ mb, mb = w2.heap.size := ⟨_, rfl⟩
  rw [← hmb] at r3 s3 ⊢
  have KI3 := Lib.hid (HB.out.keep b3)
  have R3 := Lib.hid r3
  have B3 := Lib.hid (G.below_on B2.out b3)
  have S3 := Lib.hid s3
  have NE3 := Lib.hid (show b < mb ∧ gb < mb ∧ gs < mb ∧ gf < mb from by have := HLT.out; omega)
  clear e3 r3 b3 s3 hmb mk1
  go_upto_region 9 with (fail)
  obtain ⟨w4, e4, r4, b4, s4⟩ := box_new w3 (hasC (fun _ => none) N) 4
  rw [e4]
  obtain ⟨hb, hhb⟩ : ∃ hb, hb = w3.heap.size := ⟨_, rfl⟩
  rw [← hhb] at r4 s4 ⊢
  have KI4 := Lib.hid (KI3.out.keep b4)
  have MS4 := Lib.hid (R3.out.keep b4)
  have HS4 := Lib.hid r4
  have B4 := Lib.hid (G.below_on B3.out b4)
  have NE4 := Lib.hid (show b < mb ∧ gb < mb ∧ gs < mb ∧ gf < mb ∧ mb < hb from by have := NE3.out; have := S3.out; omega)
  have S4 := Lib.hid (show w4.heap.size = hb + 1 from s4)
  have HBM := Lib.hid (show w.heap.size ≤ mb from by have := B3.out.size; have := S3.out; have := HK.out b (Or.inl rfl); have := NE3.out; omega)
  have HBW := Lib.hid (show w.heap.size ≤ hb from by have := B3.out.size; omega)
  clear mk2 e4 r4 b4 s4 hhb HB
  go_wp2
  go_loopg [8, 9] N (fun k xf si wr => ∃ i : Nat, i ≤ N ∧ k = N - i ∧ si = .int .i64 ((N : Int) - 1 - (i : Int)) ∧ wr.ownsRow (hb + 1) 3 1 xf i (natC ((List.range N).reverse.take i)) ∧ Below w4.heap.size w4 wr)
  case atStart => exact ⟨0, by omega, by omega, by first | rfl | go_num, World.ownsRow_nil _ _ _ _, Below.refl _ _⟩
  case round =>
    obtain ⟨i, hi, hkk, rfl, ho, hbw⟩ := hrel
    have HKK := Lib.hid hkk
    have HO := Lib.hid ho
    have HBW4 := Lib.hid hbw
    clear hkk ho
    by_cases hin : i < N
    · obtain ⟨q, hq⟩ : ∃ q : Nat, (N : Int) - 1 - (i : Int) = (q : Int) := ⟨N - 1 - i, by omega⟩
      have HQ := Lib.hid hq
      rw [hq]
      have HT := Lib.hid (show natC ((List.range N).reverse.take (i + 1)) = natC ((List.range N).reverse.take i) ++ [.int .i64 (q : Int)] from by rw [rev_take hin, show N - 1 - i = q by omega]; simp)
      have hqb : (q : Int) ≤ 14 := by omega
      obtain ⟨iI, hI, hI0, hI1, hI2⟩ := info_parts infoI
      have hs1 : hb + 1 ≤ wr.heap.size := by have := hbw.size; have := S4.out; omega
      clear hq hbw
      go_wp2_with (at_builtin; refine G.wpList_push (by rfl) _ _ (by rfl) (by rfl) (by rfl) Try.underlying28 hI hI0 hI1 hI2 (by rfl) (by omega) HO.out hs1 [.int .i64 (q : Int)] (by rfl) (by simp [Value.oneCell']) (by omega) (by unfold maxLen; omega) ?_; intro g1 c1 w5 ho5 hf5 hn5; have HO5 := Lib.hid ho5; have HF5 := Lib.hid hf5; clear ho5 hf5 hn5)
      go_roundg (N - (i + 1))
      case measure => have := HKK.out; omega
      case rel =>
        have hq := HQ.out
        refine ⟨i + 1, by omega, by omega, congrArg (Value.int .i64) (by omega), by rw [HT.out]; exact HO5.out, ?_⟩
        exact HBW4.out.trans (HF5.out.below (by have := HBW4.out.size; omega) (fun k hk => by have := G.own_base HO.out k hk; have := S4.out; omega))
    · have hie : i = N := by omega
      subst hie
      rw [show (i : Int) - 1 - (i : Int) = -1 by omega]
      have KS0 := Lib.hid (show KS wr b gb gs gf mb hb i u8 (List.range i).reverse (fun _ => none) from ⟨KI4.out.keep hbw, ⟨_, by simp, MS4.out.keep hbw, fun j s h => by cases h⟩, HS4.out.keep hbw, by have := HO.out; rw [List.take_of_length_le (by simp)] at this; simpa using this, NE4.out⟩)
      have B5 := Lib.hid (G.below_on B4.out hbw)
      clear hbw
      obtain ⟨w6, hw6⟩ : ∃ w6 : World, w6 = wr := ⟨_, rfl⟩
      rw [← hw6] at KS0 B5 ⊢
      clear hw6
      go_wp2
      go_loopg [8, 43] m (fun k xf si wr => ∃ (j : Nat) (fl : List Nat) (K : Nat → Option ByteArray), j ≤ m ∧ k = m - j ∧ si = .int .i64 (j : Int) ∧ KS wr b gb gs gf mb hb i xf fl K ∧ Below w.heap.size w wr)
      case atStart => exact ⟨0, _, _, by omega, by omega, rfl, KS0.out, B5.out⟩
      case round =>
        obtain ⟨j, fl, K, hj, hkk, rfl, hks, hbw⟩ := hrel
        have HKK2 := Lib.hid hkk
        have KS1 := Lib.hid hks
        have BW := Lib.hid hbw
        clear hkk hks
        by_cases hjm : j < m
        · obtain ⟨cg, off, rfl, hlt, hc⟩ := (HR.out.below hbw).at_ (by omega)
          obtain ⟨c0, c1, c2⟩ := hc j hjm
          have hbx := HR.out.bx j hjm
          have hby := HR.out.by_ j hjm
          have hbs := HR.out.bs j hjm
          unfold maxLen at hbs
          obtain ⟨s, hs⟩ : ∃ s, s = ky j := ⟨_, rfl⟩
          obtain ⟨xj, hxj⟩ : ∃ s, s = x j := ⟨_, rfl⟩
          obtain ⟨yj, hyj⟩ : ∃ s, s = y j := ⟨_, rfl⟩
          rw [← hs] at c2 hbs
          rw [← hxj] at c0 hbx
          rw [← hyj] at c1 hby
          clear hs hxj hyj hc hbw
          by_cases h300 : (300 : Int) < (s.size : Int)
          · go_wp2
            go_ret
            exact ⟨rfl, BW.out.alloc BW.out.size _⟩
          go_upto_region 17 with (fail)
          clear c0 c1 c2
          obtain ⟨w7, e7, r7, b7, s7⟩ := box_new wr #[.int .i64 xj, .int .i64 yj, .string s] 30
          change Code.wp _ _ _ _ (wr.alloc (.cells #[.int .i64 xj, .int .i64 yj, .string s] 30))
          rw [e7]
          obtain ⟨cb, hcb⟩ : ∃ cb, cb = wr.heap.size := ⟨_, rfl⟩
          rw [← hcb] at r7 ⊢
          have KS7 := Lib.hid (KS1.out.below b7)
          have R7 := Lib.hid r7
          have BW7 := Lib.hid (G.below_on BW.out b7)
          have HCB := Lib.hid (show hb < cb ∧ ∀ g, u8.ownBlock = some g → g < cb from by rw [hcb]; exact ⟨lt_of_block KS1.out.hs, G.own_lt KS1.out.fr⟩)
          have k7 := r7.rd
          clear e7 r7 b7 s7 hcb hlt
          obtain ⟨par, hpar⟩ : ∃ z, z = xj % 2 := ⟨_, rfl⟩
          have epar : bits .and .i64 xj 1 = par := by rw [G.i64_mask1, hpar]
          have hpb : par = 0 ∨ par = 1 := by omega
          clear hpar
          go_upto_if 54 with (fail)
          go_cut [8, 12, 13] from 44 to 208 (fun s8 s12 s13 wx => ∃ (fl' : List Nat) (K' : Nat → Option ByteArray), KS wx b gb gs gf mb hb i s8 fl' K' ∧ Below w.heap.size w wx ∧ Blk wx cb 30 #[.int .i64 xj, .int .i64 yj, .string s])
          case first =>
            have hks := KS7.out
            obtain ⟨A1, c1, rfl, hc1, hc2, hat⟩ := G.own_at hks.fr
            obtain ⟨M, hM1, hM2, hM3⟩ := hks.ms
            obtain ⟨n1, n2, n3, n4, n5⟩ := hks.ne
            have HKI := Lib.hid hks.ki
            have HHS := Lib.hid hks.hs
            have HFR := Lib.hid hks.fr
            have HMS := Lib.hid hM2
            have HM1 := Lib.hid hM1
            have HM3 := Lib.hid hM3
            have HW := Lib.hid (show ∀ k, kyF b gb gs gf k → k < mb from fun k hk => by rcases hk with h | h | h | h <;> omega)
            have km := hM2.wr
            have kh := hks.hs.wr
            unfold maxLen at hc2
            clear hks hM1 hM2 hM3
            rcases hpb with rfl | rfl
            · by_cases hroom : fl ≠ [] ∧ s.size ≤ 64
              · as_aux_lemma =>
                  obtain ⟨hne, hsz⟩ := hroom
                  obtain ⟨fl', q, rfl⟩ : ∃ l q, fl = l ++ [q] := ⟨_, _, (List.dropLast_concat_getLast hne).symm⟩
                  obtain ⟨L, hL⟩ : ∃ L, L = fl'.length := ⟨_, rfl⟩
                  have hl1 : (fl' ++ [q]).length = L + 1 := by simp [hL]
                  rw [hl1] at hc1 hat HFR ⊢
                  obtain ⟨g, rfl, hown, hg1, hg2, hg3, _⟩ := hat (by omega)
                  have hcell := hg3 L (by omega)
                  have e9 : (natC (fl' ++ [q]))[L]? = some (.int .i64 (q : Int)) := by rw [hL]; simp [natC]
                  rw [e9] at hcell
                  have hqN := (HKI.out.pl.1.free (i := q) (by simp)).1
                  have hcm : w7.cell? ⟨mb, q, none⟩ = some (.string (M.getD q ⟨#[]⟩)) := by rw [blk_cell HMS.out]; exact strC_get _ _ (by rw [HM1.out]; exact hqN)
                  have hch : w7.cell? ⟨hb, q, none⟩ = some (.bool (K q).isSome) := by rw [blk_cell HHS.out]; exact hasC_get _ _ _ hqN
                  have nmh : hb ≠ mb := by omega
                  have nhm : mb ≠ hb := by omega
                  have ncm : cb ≠ mb := by have := HCB.out.1; omega
                  have nch : cb ≠ hb := by have := HCB.out.1; omega
                  have t1 : (0 : Int) ≤ (q : Int) := by omega
                  have t2 : (q : Int) < (i : Int) := by omega
                  have t3 : decide ((0 : Int) < ((L + 1 : Nat) : Int)) = true := by rw [decide_eq_true_eq]; omega
                  have t3' : decide (0 < L + 1) = true := by rw [decide_eq_true_eq]; omega
                  have t4 : decide ((s.size : Int) ≤ 64) = true := by rw [decide_eq_true_eq]; omega
                  have t4' : decide (s.size ≤ 64) = true := by rw [decide_eq_true_eq]; omega
                  have t5 : ((L + 1 : Nat) : Int) - 1 = (L : Int) := by omega
                  have t6 : (0 : Int) ≤ (L : Int) := by omega
                  have t7 : (L : Int) < ((L + 1 : Nat) : Int) := by omega
                  have t8 : (L : Int) ≤ (c1 : Int) := by omega
                  have HL := Lib.hid hL
                  clear hne hg3 e9 hat hown hg2 hL hl1
                  go_upto_region 25 with (fail)
                  clear hcell km kh hcm hch
                  obtain ⟨w8, e8, r8, f8, s8⟩ := G.box_set HMS.out q (.string s) (strC (M.set q s)) (strC_set M q s)
                  rw [e8]
                  have HS8 := Lib.hid (HHS.out.fr f8 (show hb ≠ mb by omega))
                  have KI8 := Lib.hid (KeysIn.fr HKI.out f8 (by show b ≠ mb ∧ gb ≠ mb ∧ gs ≠ mb ∧ gf ≠ mb; omega))
                  have RR8 := Lib.hid (R7.out.fr f8 (show cb ≠ mb by have := HCB.out.1; omega))
                  have FR8 := Lib.hid (G.own_fr HFR.out f8 (fun g' hg' => by have := G.own_base HFR.out g' hg'; show g' ≠ mb; omega))
                  have M8 := Lib.hid r8
                  have W8 := Lib.hid (BW7.out.trans (f8.below BW7.out.size (fun k hk => by have := HBM.out; omega)))
                  clear e8 r8 f8 s8
                  obtain ⟨w9, e9, r9, f9, s9⟩ := G.box_set HS8.out q (.bool true) (hasC (upd K q (some s)) i) (hasC_set K i q (some s))
                  rw [e9]
                  have KI9 := Lib.hid (KeysIn.fr KI8.out f9 (by show b ≠ hb ∧ gb ≠ hb ∧ gs ≠ hb ∧ gf ≠ hb; omega))
                  have RR9 := Lib.hid (RR8.out.fr f9 (show cb ≠ hb by have := HCB.out.1; omega))
                  have FR9 := Lib.hid (G.own_fr FR8.out f9 (fun g' hg' => by have := G.own_base FR8.out g' hg'; show g' ≠ hb; omega))
                  have M9 := Lib.hid (M8.out.fr f9 (show mb ≠ hb by omega))
                  have H9 := Lib.hid r9
                  have W9 := Lib.hid (W8.out.trans (f9.below W8.out.size (fun k hk => by have := HBW.out; omega)))
                  clear e9 r9 f9 s9
                  have k9 := RR9.out.rd
                  go_wp2_with (go_at_call 9; ((with_reducible refine (put_yes q s _ KI9.out hsz).mono ?_); rintro e wa ⟨rfl, ha, fa⟩; have KIa := Lib.hid ha; have Fa := Lib.hid fa; clear ha fa))
                  go_meet
                  case rel =>
                    have hw := HW.out
                    have hcbb := HCB.out.1
                    refine ⟨fl', upd K q (some s), ⟨KIa.out, ⟨M.set q s, by rw [List.length_set]; exact HM1.out, M9.out.fr Fa.out (fun h => by have := hw _ h; omega), fun i' s' hs' => ?_⟩, H9.out.fr Fa.out (fun h => by have := hw _ h; omega), ?_, ⟨n1, n2, n3, n4, n5⟩⟩, W9.out.trans (Fa.out.below W9.out.size HK.out), RR9.out.fr Fa.out (fun h => by have := hw _ h; omega)⟩
                    · have hml := HM1.out
                      have hm3 := HM3.out
                      by_cases hiq : i' = q
                      · subst hiq
                        have : s = s' := by simpa [upd] using hs'
                        subst this
                        simp [List.getD, hml, hqN]
                      · have : K i' = some s' := by simpa [upd, hiq] using hs'
                        rw [← hm3 i' s' this]
                        simp [List.getD, List.getElem?_set, Ne.symm hiq]
                    · have hf := G.own_fr FR9.out Fa.out (fun g' hg' h => by have := G.own_base FR9.out g' hg'; have := hw _ h; omega)
                      rw [show natC (fl' ++ [q]) = natC fl' ++ natC [q] by simp [natC]] at hf
                      rw [← HL.out]
                      exact G.own_pre hf (by omega) (by simp [natC, HL.out])
              · as_aux_lemma =>
                  have hpn : 64 < s.size ∨ fl = [] := by
                    by_cases h : fl = []
                    · exact Or.inr h
                    · left; by_cases h2 : s.size ≤ 64; exact absurd ⟨h, h2⟩ hroom; omega
                  have PN := Lib.hid (put_no s w7 HKI.out hpn)
                  have hfx : fl.length = 0 ∨ (0 < fl.length ∧ 64 < s.size) := by
                    rcases Nat.eq_zero_or_pos fl.length with h | h
                    · exact Or.inl h
                    · right
                      refine ⟨h, ?_⟩
                      rcases hpn with h2 | h2
                      · exact h2
                      · subst h2; simp at h
                  obtain ⟨L, hL⟩ : ∃ L, L = fl.length := ⟨_, rfl⟩
                  rw [← hL] at hfx hc1 hat HFR KS7 ⊢
                  have HL := Lib.hid hL
                  have hund : undef = Value.tuple #[] := rfl
                  clear hpn hroom hat hL
                  rcases hfx with h0 | ⟨h0, h64⟩
                  · have t3 : decide ((0 : Int) < (L : Int)) = false := by rw [decide_eq_false_iff_not]; omega
                    have t3' : decide (0 < L) = false := by rw [decide_eq_false_iff_not]; omega
                    clear h0
                    go_wp2_with (go_at_call 9; ((with_reducible refine PN.out.mono ?_); rintro e wa ⟨rfl, rfl⟩))
                    go_meet
                    case rel => exact ⟨fl, K, KS7.out, BW7.out, R7.out⟩
                  · have t3 : decide ((0 : Int) < (L : Int)) = true := by rw [decide_eq_true_eq]; omega
                    have t3' : decide (0 < L) = true := by rw [decide_eq_true_eq]; omega
                    have t4 : decide ((s.size : Int) ≤ 64) = false := by rw [decide_eq_false_iff_not]; omega
                    have t4' : decide (s.size ≤ 64) = false := by rw [decide_eq_false_iff_not]; omega
                    clear h0 h64
                    go_wp2_with (go_at_call 9; ((with_reducible refine PN.out.mono ?_); rintro e wa ⟨rfl, rfl⟩))
                    go_meet
                    case rel => exact ⟨fl, K, KS7.out, BW7.out, R7.out⟩
            · as_aux_lemma =>
                obtain ⟨t, ht⟩ : ∃ t, t = yj.tmod 20 := ⟨_, rfl⟩
                have et : yj.tmod 20 = t := ht.symm
                have htb : -19 ≤ t ∧ t ≤ 19 := by
                  rw [ht]
                  by_cases h : 0 ≤ yj
                  · rw [Int.tmod_eq_emod_of_nonneg h]; omega
                  · obtain ⟨q, rfl⟩ : ∃ q, yj = -q := ⟨-yj, by omega⟩
                    rw [Int.neg_tmod, Int.tmod_eq_emod_of_nonneg (by omega)]; omega
                obtain ⟨htb1, htb2⟩ := htb
                clear ht hat
                cases hh : hasB K i (t - 2) with
                | true =>
                  have h2 : ∃ p : Nat, t - 2 = (p : Int) ∧ p < i ∧ (K p).isSome = true := by
                    unfold hasB at hh
                    simp only [Bool.and_eq_true, decide_eq_true_eq] at hh
                    exact ⟨(t - 2).toNat, by omega, by omega, hh.2.2⟩
                  obtain ⟨p, hp, hpi, hkp⟩ := h2
                  have HP := Lib.hid hp
                  have CF := Lib.hid (free_yes p w7 HKI.out hkp)
                  have t1 : (0 : Int) ≤ (p : Int) := by omega
                  have t2 : (p : Int) < (i : Int) := by omega
                  have t3 : decide ((0 : Int) ≤ (p : Int)) = true := by rw [decide_eq_true_eq]; omega
                  have t4 : decide ((p : Int) < (i : Int)) = true := by rw [decide_eq_true_eq]; omega
                  have t4' : decide (p < i) = true := by rw [decide_eq_true_eq]; omega
                  have HKP := Lib.hid hkp
                  have HPI := Lib.hid hpi
                  clear hh hkp km kh hpi
                  go_upto_region 28 with (fail)
                  clear hp
                  go_wp2_with (fail)
                  refine CF.out.mono ?_
                  rintro e wa ⟨rfl, ha, fa⟩
                  have KIa := Lib.hid ha
                  have Fa := Lib.hid fa
                  have HSa := Lib.hid (HHS.out.fr fa (fun h => by have := HW.out _ h; omega))
                  clear ha fa
                  have hcp : wa.cell? ⟨hb, p, none⟩ = some (.bool true) := by rw [blk_cell HSa.out, hasC_get _ _ _ HPI.out, HKP.out]
                  have kh := HSa.out.wr
                  go_upto_region 31 with (fail)
                  clear hcp kh
                  obtain ⟨w9, e9, r9, f9, s9⟩ := G.box_set HSa.out p (.bool false) (hasC (upd K p none) i) (hasC_set K i p none)
                  rw [e9]
                  have Wa := Lib.hid (BW7.out.trans (Fa.out.below BW7.out.size HK.out))
                  have W9 := Lib.hid (Wa.out.trans (f9.below Wa.out.size (fun k hk => by have := HBW.out; omega)))
                  have KI9 := Lib.hid (KeysIn.fr KIa.out f9 (by show b ≠ hb ∧ gb ≠ hb ∧ gs ≠ hb ∧ gf ≠ hb; omega))
                  have F79 := Lib.hid (show Fr (fun k => kyF b gb gs gf k ∨ k = hb) w7 w9 from (Fa.out.mono (fun k h => Or.inl h)).trans (f9.mono (fun k h => Or.inr h)))
                  have RR9 := Lib.hid (R7.out.fr F79.out (fun h => by have := HCB.out.1; rcases h with h | h; (have := HW.out _ h; omega); omega))
                  have FR9 := Lib.hid (G.own_fr HFR.out F79.out (fun g' hg' h => by have := G.own_base HFR.out g' hg'; rcases h with h | h; (have := HW.out _ h; omega); omega))
                  have M9 := Lib.hid (HMS.out.fr F79.out (fun h => by rcases h with h | h; (have := HW.out _ h; omega); omega))
                  have H9 := Lib.hid r9
                  have hs9 : hb + 1 ≤ w9.heap.size := lt_of_block r9
                  have hl9 := (KIa.out.pl.1.le)
                  rw [List.length_append, List.length_cons, List.length_nil] at hl9
                  have HL9 := Lib.hid hl9
                  obtain ⟨iI, hI, hI0, hI1, hI2⟩ := info_parts infoI
                  clear e9 r9 f9 s9 hl9
                  go_wp2_with (at_builtin; refine G.wpList_push (by rfl) _ _ (by rfl) (by rfl) (by rfl) Try.underlying28 hI hI0 hI1 hI2 (by rfl) (by omega) FR9.out hs9 [.int .i64 (p : Int)] (by rfl) (by simp [Value.oneCell']) (by have := HL9.out; omega) (by have := HL9.out; unfold maxLen; omega) ?_; intro g1 c9 wb ho5 hf5 hn5; have HO5 := Lib.hid ho5; have HF5 := Lib.hid hf5; clear ho5 hf5 hn5)
                  go_meet
                  case rel =>
                    have hcbb := HCB.out
                    have hob := G.own_base FR9.out
                    have hfl : (Value.slice A1 fl.length c1).ownBlock = some cb → False := fun h => by have := hcbb.2 cb h; omega
                    refine ⟨fl ++ [p], upd K p none, ⟨KeysIn.fr KI9.out HF5.out (by refine ⟨?_, ?_, ?_, ?_⟩ <;> (intro h; have := hob _ h; omega)), ⟨M, HM1.out, M9.out.fr HF5.out (fun h => by have := hob _ h; omega), fun i' s' hs' => ?_⟩, H9.out.fr HF5.out (fun h => by have := hob _ h; omega), ?_, ⟨n1, n2, n3, n4, n5⟩⟩, W9.out.trans (HF5.out.below W9.out.size (fun k hk => by have := hob k hk; have := HBW.out; omega)), RR9.out.fr HF5.out (fun h => hfl h)⟩
                    · by_cases hip : i' = p
                      · subst hip; simp [upd] at hs'
                      · exact HM3.out i' s' (by simpa [upd, hip] using hs')
                    · have := HO5.out
                      rw [List.length_append]
                      simpa [natC] using this
                | false =>
                  have CF := Lib.hid (free_no (t - 2) w7 HKI.out hh)
                  have hund : undef = Value.tuple #[] := rfl
                  have hcase : (t - 2 < 0) ∨ (0 ≤ t - 2 ∧ (i : Int) ≤ t - 2) ∨ (∃ p : Nat, t - 2 = (p : Int) ∧ p < i ∧ (K p).isSome = false) := by
                    by_cases h1 : t - 2 < 0
                    · exact Or.inl h1
                    · by_cases h2 : (i : Int) ≤ t - 2
                      · exact Or.inr (Or.inl ⟨by omega, h2⟩)
                      · refine Or.inr (Or.inr ⟨(t - 2).toNat, by omega, by omega, ?_⟩)
                        have e5 : decide (0 ≤ t - 2) = true := by rw [decide_eq_true_eq]; omega
                        have e6 : decide (t - 2 < (i : Int)) = true := by rw [decide_eq_true_eq]; omega
                        unfold hasB at hh
                        rw [e5, e6] at hh
                        exact hh
                  clear hh
                  rcases hcase with h1 | ⟨h1, h2⟩ | ⟨p, hp, hpi, hkp⟩
                  · have t3 : decide ((0 : Int) ≤ t - 2) = false := by rw [decide_eq_false_iff_not]; omega
                    have t3' : decide ((2 : Int) ≤ t) = false := by rw [decide_eq_false_iff_not]; omega
                    go_wp2_with (go_at_call 10; ((with_reducible refine CF.out.mono ?_); rintro e wa ⟨rfl, rfl⟩))
                    go_meet
                    case rel => exact ⟨fl, K, KS7.out, BW7.out, R7.out⟩
                  · have t3 : decide ((0 : Int) ≤ t - 2) = true := by rw [decide_eq_true_eq]; omega
                    have t3' : decide ((2 : Int) ≤ t) = true := by rw [decide_eq_true_eq]; omega
                    have t4 : decide (t - 2 < (i : Int)) = false := by rw [decide_eq_false_iff_not]; omega
                    go_wp2_with (go_at_call 10; ((with_reducible refine CF.out.mono ?_); rintro e wa ⟨rfl, rfl⟩))
                    go_meet
                    case rel => exact ⟨fl, K, KS7.out, BW7.out, R7.out⟩
                  · rw [hp] at CF
                    have t1 : (0 : Int) ≤ (p : Int) := by omega
                    have t2 : (p : Int) < (i : Int) := by omega
                    have t3 : decide ((0 : Int) ≤ (p : Int)) = true := by rw [decide_eq_true_eq]; omega
                    have t4 : decide ((p : Int) < (i : Int)) = true := by rw [decide_eq_true_eq]; omega
                    have t4' : decide (p < i) = true := by rw [decide_eq_true_eq]; omega
                    have hcp : w7.cell? ⟨hb, p, none⟩ = some (.bool false) := by rw [blk_cell HHS.out, hasC_get _ _ _ hpi, hkp]
                    clear hkp hpi
                    go_wp2_with (go_at_call 10; ((with_reducible refine CF.out.mono ?_); rintro e wa ⟨rfl, rfl⟩))
                    go_meet
                    case rel => exact ⟨fl, K, KS7.out, BW7.out, R7.out⟩
          case rest =>
            obtain ⟨fl', K', hk, hw, hr⟩ := hcut
            have KS8 := Lib.hid hk
            have B8 := Lib.hid hw
            have R8 := Lib.hid hr
            obtain ⟨M8, hM1, hM2, hM3⟩ := hk.ms
            have MM8 := Lib.hid hM2
            have ML8 := Lib.hid hM1
            have MK8 := Lib.hid hM3
            have hcbn : cb ≠ mb := by have := HCB.out.1; have := hk.ne.2.2.2.2; omega
            obtain ⟨w8, hw8⟩ : ∃ w8 : World, w8 = wc := ⟨_, rfl⟩
            rw [← hw8] at KS8 B8 R8 MM8 ⊢
            clear hk hw hr k7 hM1 hM2 hM3 hw8
            go_wp2
            go_loopg [14] (i + 2) (fun k sz wq => ∃ d : Nat, d ≤ i + 2 ∧ k = i + 2 - d ∧ sz = .int .i64 ((d : Int) - 1) ∧ Below w8.heap.size w8 wq)
            case atStart => exact ⟨0, by omega, by omega, congrArg (Value.int .i64) (by omega), Below.refl _ _⟩
            case round =>
              obtain ⟨d, hd, hkk, rfl, hbq⟩ := hrel
              have HK3 := Lib.hid hkk
              have BQ := Lib.hid hbq
              have KSq := Lib.hid (KS8.out.below hbq)
              have MMq := Lib.hid (MM8.out.keep hbq)
              have Rq := Lib.hid (R8.out.keep hbq)
              clear hkk hbq
              obtain ⟨wq, hwq⟩ : ∃ wq : World, wq = wr := ⟨_, rfl⟩
              rw [← hwq] at BQ KSq MMq Rq ⊢
              clear hwq
              obtain ⟨z, hz⟩ : ∃ z, z = (d : Int) - 1 := ⟨_, rfl⟩
              rw [← hz]
              have hzb : -1 ≤ z ∧ z ≤ (i : Int) + 1 := by omega
              obtain ⟨hz1, hz2⟩ := hzb
              have HZ := Lib.hid hz
              clear hz
              by_cases hdi : z ≤ (i : Int)
              · as_aux_lemma =>
                  cases hh : hasB K' i z with
                  | true =>
                    have h2 : ∃ p : Nat, z = (p : Int) ∧ p < i ∧ (K' p).isSome = true := by
                      unfold hasB at hh
                      simp only [Bool.and_eq_true, decide_eq_true_eq] at hh
                      exact ⟨z.toNat, by omega, by omega, hh.2.2⟩
                    obtain ⟨p, rfl, hpi, hkp⟩ := h2
                    obtain ⟨t, ht⟩ := Option.isSome_iff_exists.1 hkp
                    have CKY := Lib.hid (key_yes p t wq KSq.out.ki hpi ht)
                    have CI := Lib.hid (fun (s : ByteArray) W (hb : Below wq.heap.size wq W) => show Calls Try.prog 12 #[.pointer (some ⟨b, 0, none⟩), .int .i64 (p : Int), .string s] W (fun e w' => e = .returned (.bool (t.toList == s.toList)) ∧ Below W.heap.size W w') from by
                      have := is_any (p : Int) s W (KSq.out.ki.keep hb)
                      rwa [show isB K' i (p : Int) s = (t.toList == s.toList) from by unfold isB; simp [ht, hpi]] at this)
                    have HSS := Lib.hid (fun W (hb : Below wq.heap.size wq W) => show (W.cell? ⟨mb, p, none⟩ = some (.string t) ∧ W.cell? ⟨cb, 2, none⟩ = some (.string s)) from ⟨by rw [blk_cell (MMq.out.keep hb), strC_get _ _ (by rw [ML8.out]; exact hpi), MK8.out p t ht], by rw [blk_cell (Rq.out.keep hb)]; rfl⟩)
                    have CI1 := Lib.hid (fun W (hb : Below wq.heap.size wq W) => show Calls Try.prog 12 #[.pointer (some ⟨b, 0, none⟩), .int .i64 (p : Int), .string t] W (fun e w' => e = .returned (.bool true) ∧ Below W.heap.size W w') from by
                      have := CI.out t W hb
                      rwa [show (t.toList == t.toList) = true from beq_self_eq_true _] at this)
                    have t1 : (0 : Int) ≤ (p : Int) := by omega
                    have t2 : (p : Int) < (i : Int) := by omega
                    have t3 : decide ((0 : Int) ≤ (p : Int)) = true := by rw [decide_eq_true_eq]; omega
                    have t4 : decide ((p : Int) < (i : Int)) = true := by rw [decide_eq_true_eq]; omega
                    have t4' : decide (p < i) = true := by rw [decide_eq_true_eq]; omega
                    have hcp : wq.cell? ⟨hb, p, none⟩ = some (.bool true) := by rw [blk_cell KSq.out.hs, hasC_get _ _ _ hpi, hkp]
                    have hpi' := Lib.hid hpi
                    clear hh hkp ht hpi
                    go_upto_region 36 with (fail)
                    clear hcp
                    go_upto_region 37 with (go_at_call 11; ((with_reducible refine CKY.out.mono ?_); rintro e wk ⟨rfl, bk⟩; have BK := Lib.hid bk; have SK := HSS.out _ bk; clear bk))
                    refine wp_region_held_drew (S := fun w' => w'.cell? ⟨mb, p, none⟩ = some (.string t) ∧ w'.cell? ⟨cb, 2, none⟩ = some (.string s)) (by kernel_rfl) SK (fun hHeld => ?_)
                    clear SK
                    have BD := Lib.hid (show Below wq.heap.size wq wk.drew from below_draws BK.out 1)
                    refine wpAnyH_take (i := 0) (oi := ?_) (v := ?_) ?_ ?_ ?_ ?_ ?_ ?_ ?_ ?_
                    rotate_left 2
                    · simp only [List.getElem?_toArray, List.getElem?_cons_succ, List.getElem?_cons_zero]; rfl
                    · kernel_rfl
                    · kernel_rfl
                    · kernel_rfl
                    · exact fun _ _ _ h => h
                    · refine Or.inl ⟨by rfl, ?_⟩
                      intro w' hSw
                      (try dsimp only at hSw)
                      go_simp
                      all_goals (with_reducible rfl)
                    · assumption
                    try simp only [Act.put, List.setIfInBounds_toArray, List.set_cons_zero, List.set_cons_succ]
                    refine wpAnyH_take (i := 1) (oi := ?_) (v := ?_) ?_ ?_ ?_ ?_ ?_ ?_ ?_ ?_
                    rotate_left 2
                    · simp only [List.getElem?_toArray, List.getElem?_cons_succ, List.getElem?_cons_zero]; rfl
                    · kernel_rfl
                    · kernel_rfl
                    · kernel_rfl
                    · exact fun _ _ _ h => h
                    · refine Or.inl ⟨by rfl, ?_⟩
                      intro w' hSw
                      (try dsimp only at hSw)
                      go_simp
                      all_goals (with_reducible rfl)
                    · assumption
                    try simp only [Act.put, List.setIfInBounds_toArray, List.set_cons_zero, List.set_cons_succ]
                    refine wpAnyH_take (i := 2) (oi := ?_) (v := ?_) ?_ ?_ ?_ ?_ ?_ ?_ ?_ ?_
                    rotate_left 2
                    · simp only [List.getElem?_toArray, List.getElem?_cons_succ, List.getElem?_cons_zero]; rfl
                    · kernel_rfl
                    · kernel_rfl
                    · kernel_rfl
                    · exact fun _ _ _ h => h
                    · refine Or.inl ⟨by rfl, ?_⟩
                      intro w' hSw
                      (try dsimp only at hSw)
                      go_simp
                      all_goals (with_reducible rfl)
                    · assumption
                    try simp only [Act.put, List.setIfInBounds_toArray, List.set_cons_zero, List.set_cons_succ]
                    refine wpAnyH_take (i := 3) (oi := ?_) (v := ?_) ?_ ?_ ?_ ?_ ?_ ?_ ?_ ?_
                    rotate_left 2
                    · simp only [List.getElem?_toArray, List.getElem?_cons_succ, List.getElem?_cons_zero]; rfl
                    · kernel_rfl
                    · kernel_rfl
                    · kernel_rfl
                    · exact fun _ _ _ h => h
                    · refine Or.inl ⟨by rfl, ?_⟩
                      intro w' hSw
                      (try dsimp only at hSw)
                      go_simp
                      all_goals (with_reducible rfl)
                    · assumption
                    try simp only [Act.put, List.setIfInBounds_toArray, List.set_cons_zero, List.set_cons_succ]
                    refine wpAnyH_take (i := 4) (oi := ?_) (v := ?_) ?_ ?_ ?_ ?_ ?_ ?_ ?_ ?_
                    rotate_left 2
                    · simp only [List.getElem?_toArray, List.getElem?_cons_succ, List.getElem?_cons_zero]; rfl
                    · kernel_rfl
                    · kernel_rfl
                    · kernel_rfl
                    · exact fun _ _ _ h => h
                    · refine Or.inl ⟨by rfl, ?_⟩
                      intro w' hSw
                      (try dsimp only at hSw)
                      go_simp
                      all_goals (with_reducible rfl)
                    · assumption
                    try simp only [Act.put, List.setIfInBounds_toArray, List.set_cons_zero, List.set_cons_succ]
                    refine wpAnyH_take (i := 5) (oi := ?_) (v := ?_) ?_ ?_ ?_ ?_ ?_ ?_ ?_ ?_
                    rotate_left 2
                    · simp only [List.getElem?_toArray, List.getElem?_cons_succ, List.getElem?_cons_zero]; rfl
                    · kernel_rfl
                    · kernel_rfl
                    · kernel_rfl
                    · exact fun _ _ _ h => h
                    · refine Or.inl ⟨by rfl, ?_⟩
                      intro w' hSw
                      (try dsimp only at hSw)
                      go_simp
                      all_goals (with_reducible rfl)
                    · assumption
                    try simp only [Act.put, List.setIfInBounds_toArray, List.set_cons_zero, List.set_cons_succ]
                    refine wpAnyH_take (i := 6) (oi := ?_) (v := ?_) ?_ ?_ ?_ ?_ ?_ ?_ ?_ ?_
                    rotate_left 2
                    · simp only [List.getElem?_toArray, List.getElem?_cons_succ, List.getElem?_cons_zero]; rfl
                    · kernel_rfl
                    · kernel_rfl
                    · kernel_rfl
                    · exact fun _ _ _ h => h
                    · refine Or.inl ⟨by rfl, ?_⟩
                      intro w' hSw
                      (try dsimp only at hSw)
                      go_simp
                      all_goals (with_reducible rfl)
                    · assumption
                    try simp only [Act.put, List.setIfInBounds_toArray, List.set_cons_zero, List.set_cons_succ]
                    refine wpAnyH_take (i := 7) (oi := ?_) (v := ?_) ?_ ?_ ?_ ?_ ?_ ?_ ?_ ?_
                    rotate_left 2
                    · simp only [List.getElem?_toArray, List.getElem?_cons_succ, List.getElem?_cons_zero]; rfl
                    · kernel_rfl
                    · kernel_rfl
                    · kernel_rfl
                    · exact fun _ _ _ h => h
                    · refine Or.inl ⟨by rfl, ?_⟩
                      intro w' hSw
                      (try dsimp only at hSw)
                      go_simp
                      all_goals (with_reducible rfl)
                    · assumption
                    try simp only [Act.put, List.setIfInBounds_toArray, List.set_cons_zero, List.set_cons_succ]
                    refine wpAnyH_take (i := 8) (oi := ?_) (v := ?_) ?_ ?_ ?_ ?_ ?_ ?_ ?_ ?_
                    rotate_left 2
                    · simp only [List.getElem?_toArray, List.getElem?_cons_succ, List.getElem?_cons_zero]; rfl
                    · kernel_rfl
                    · kernel_rfl
                    · kernel_rfl
                    · exact fun _ _ _ h => h
                    · refine Or.inl ⟨by rfl, ?_⟩
                      intro w' hSw
                      (try dsimp only at hSw)
                      go_simp
                      all_goals (with_reducible rfl)
                    · assumption
                    try simp only [Act.put, List.setIfInBounds_toArray, List.set_cons_zero, List.set_cons_succ]
                    refine wpAnyH_take (i := 9) (oi := ?_) (v := ?_) ?_ ?_ ?_ ?_ ?_ ?_ ?_ ?_
                    rotate_left 2
                    · simp only [List.getElem?_toArray, List.getElem?_cons_succ, List.getElem?_cons_zero]; rfl
                    · kernel_rfl
                    · kernel_rfl
                    · kernel_rfl
                    · exact fun _ _ _ h => h
                    · refine Or.inl ⟨by rfl, ?_⟩
                      intro w' hSw
                      (try dsimp only at hSw)
                      go_simp
                      all_goals (with_reducible rfl)
                    · assumption
                    try simp only [Act.put, List.setIfInBounds_toArray, List.set_cons_zero, List.set_cons_succ]
                    refine wpAnyH_take (i := 10) (oi := ?_) (v := ?_) ?_ ?_ ?_ ?_ ?_ ?_ ?_ ?_
                    rotate_left 2
                    · simp only [List.getElem?_toArray, List.getElem?_cons_succ, List.getElem?_cons_zero]; rfl
                    · kernel_rfl
                    · kernel_rfl
                    · kernel_rfl
                    · exact fun _ _ _ h => h
                    · refine Or.inl ⟨by rfl, ?_⟩
                      intro w' hSw
                      (try dsimp only at hSw)
                      go_simp
                      all_goals (with_reducible rfl)
                    · assumption
                    try simp only [Act.put, List.setIfInBounds_toArray, List.set_cons_zero, List.set_cons_succ]
                    refine wpAnyH_take (i := 11) (oi := ?_) (v := ?_) ?_ ?_ ?_ ?_ ?_ ?_ ?_ ?_
                    rotate_left 2
                    · simp only [List.getElem?_toArray, List.getElem?_cons_succ, List.getElem?_cons_zero]; rfl
                    · kernel_rfl
                    · kernel_rfl
                    · kernel_rfl
                    · exact fun _ _ _ h => h
                    · refine Or.inl ⟨by rfl, ?_⟩
                      intro w' hSw
                      (try dsimp only at hSw)
                      go_simp
                      all_goals (with_reducible rfl)
                    · assumption
                    try simp only [Act.put, List.setIfInBounds_toArray, List.set_cons_zero, List.set_cons_succ]
                    refine wpAnyH_take (i := 12) (oi := ?_) (v := ?_) ?_ ?_ ?_ ?_ ?_ ?_ ?_ ?_
                    rotate_left 2
                    · simp only [List.getElem?_toArray, List.getElem?_cons_succ, List.getElem?_cons_zero]; rfl
                    · kernel_rfl
                    · kernel_rfl
                    · kernel_rfl
                    · exact fun _ _ _ h => h
                    · refine Or.inl ⟨by rfl, ?_⟩
                      intro w' hSw
                      (try dsimp only at hSw)
                      go_simp
                      all_goals (with_reducible rfl)
                    · assumption
                    try simp only [Act.put, List.setIfInBounds_toArray, List.set_cons_zero, List.set_cons_succ]
                    refine wpAnyH_take (i := 13) (oi := ?_) (v := ?_) ?_ ?_ ?_ ?_ ?_ ?_ ?_ ?_
                    rotate_left 2
                    · simp only [List.getElem?_toArray, List.getElem?_cons_succ, List.getElem?_cons_zero]; rfl
                    · kernel_rfl
                    · kernel_rfl
                    · kernel_rfl
                    · exact fun _ _ _ h => h
                    · refine Or.inl ⟨by rfl, ?_⟩
                      intro w' hSw
                      (try dsimp only at hSw)
                      go_simp
                      all_goals (with_reducible rfl)
                    · assumption
                    try simp only [Act.put, List.setIfInBounds_toArray, List.set_cons_zero, List.set_cons_succ]
                    refine wpAnyH_take (i := 14) (oi := ?_) (v := ?_) ?_ ?_ ?_ ?_ ?_ ?_ ?_ ?_
                    rotate_left 2
                    · simp only [List.getElem?_toArray, List.getElem?_cons_succ, List.getElem?_cons_zero]; rfl
                    · kernel_rfl
                    · kernel_rfl
                    · kernel_rfl
                    · exact fun _ _ _ h => h
                    · refine Or.inl ⟨by rfl, ?_⟩
                      intro w' hSw
                      (try dsimp only at hSw)
                      go_simp
                      all_goals (with_reducible rfl)
                    · assumption
                    try simp only [Act.put, List.setIfInBounds_toArray, List.set_cons_zero, List.set_cons_succ]
                    refine wpAnyH_take (i := 15) (oi := ?_) (v := ?_) ?_ ?_ ?_ ?_ ?_ ?_ ?_ ?_
                    rotate_left 2
                    · simp only [List.getElem?_toArray, List.getElem?_cons_succ, List.getElem?_cons_zero]; rfl
                    · kernel_rfl
                    · kernel_rfl
                    · kernel_rfl
                    · exact fun _ _ _ h => h
                    · refine Or.inl ⟨by rfl, ?_⟩
                      intro w' hSw
                      (try dsimp only at hSw)
                      go_simp
                      all_goals (with_reducible rfl)
                    · assumption
                    try simp only [Act.put, List.setIfInBounds_toArray, List.set_cons_zero, List.set_cons_succ]
                    refine wpAnyH_take (i := 16) (oi := ?_) (v := ?_) ?_ ?_ ?_ ?_ ?_ ?_ ?_ ?_
                    rotate_left 2
                    · simp only [List.getElem?_toArray, List.getElem?_cons_succ, List.getElem?_cons_zero]; rfl
                    · kernel_rfl
                    · kernel_rfl
                    · kernel_rfl
                    · exact fun _ _ _ h => h
                    · refine Or.inl ⟨by rfl, ?_⟩
                      intro w' hSw
                      (try dsimp only at hSw)
                      go_simp
                      all_goals (with_reducible rfl)
                    · assumption
                    try simp only [Act.put, List.setIfInBounds_toArray, List.set_cons_zero, List.set_cons_succ]
                    refine wpAnyH_take (i := 17) (oi := ?_) (v := ?_) ?_ ?_ ?_ ?_ ?_ ?_ ?_ ?_
                    rotate_left 2
                    · simp only [List.getElem?_toArray, List.getElem?_cons_succ, List.getElem?_cons_zero]; rfl
                    · kernel_rfl
                    · kernel_rfl
                    · kernel_rfl
                    · exact fun _ _ _ h => h
                    · refine Or.inl ⟨by rfl, ?_⟩
                      intro w' hSw
                      (try dsimp only at hSw)
                      go_simp
                      all_goals (with_reducible rfl)
                    · assumption
                    try simp only [Act.put, List.setIfInBounds_toArray, List.set_cons_zero, List.set_cons_succ]
                    refine wpAnyH_take (i := 18) (oi := ?_) (v := ?_) ?_ ?_ ?_ ?_ ?_ ?_ ?_ ?_
                    rotate_left 2
                    · simp only [List.getElem?_toArray, List.getElem?_cons_succ, List.getElem?_cons_zero]; rfl
                    · kernel_rfl
                    · kernel_rfl
                    · kernel_rfl
                    · exact fun _ _ _ h => h
                    · refine Or.inl ⟨by rfl, ?_⟩
                      intro w' hSw
                      (try dsimp only at hSw)
                      go_simp
                      all_goals (with_reducible rfl)
                    · assumption
                    try simp only [Act.put, List.setIfInBounds_toArray, List.set_cons_zero, List.set_cons_succ]
                    refine wpAnyH_ready (rs := [19]) (by kernel_rfl) (by simp) ?_
                    refine AllReadyH.cons (o := ?_) ?_ ?_ ?_
                    rotate_left 1
                    · simp only [List.getElem?_toArray, List.getElem?_cons_succ, List.getElem?_cons_zero]; rfl
                    rotate_left 1
                    · exact AllReadyH.nil
                    intro K hK
                    go_simp
                    ((with_reducible refine (CI1.out _ BD.out).mono ?_); rintro e wi ⟨rfl, bi⟩; have B1 := Lib.hid bi; clear bi)
                    refine hK.out _ _ (HSS.out _ (G.below_on BD.out B1.out)) (fun hHeld => ?_)
                    clear hK K
                    try simp only [Act.put, List.setIfInBounds_toArray, List.set_cons_zero, List.set_cons_succ]
                    refine wpAnyH_take (i := 20) (oi := ?_) (v := ?_) ?_ ?_ ?_ ?_ ?_ ?_ ?_ ?_
                    rotate_left 2
                    · simp only [List.getElem?_toArray, List.getElem?_cons_succ, List.getElem?_cons_zero]; rfl
                    · kernel_rfl
                    · kernel_rfl
                    · kernel_rfl
                    · exact fun _ _ _ h => h
                    · refine Or.inl ⟨by rfl, ?_⟩
                      intro w' hSw
                      (try dsimp only at hSw)
                      go_simp
                      all_goals (with_reducible rfl)
                    · assumption
                    try simp only [Act.put, List.setIfInBounds_toArray, List.set_cons_zero, List.set_cons_succ]
                    refine wpAnyH_take (i := 21) (oi := ?_) (v := ?_) ?_ ?_ ?_ ?_ ?_ ?_ ?_ ?_
                    rotate_left 2
                    · simp only [List.getElem?_toArray, List.getElem?_cons_succ, List.getElem?_cons_zero]; rfl
                    · kernel_rfl
                    · kernel_rfl
                    · kernel_rfl
                    · exact fun _ _ _ h => h
                    · refine Or.inl ⟨by rfl, ?_⟩
                      intro w' hSw
                      (try dsimp only at hSw)
                      go_simp
                      all_goals (with_reducible rfl)
                    · assumption
                    try simp only [Act.put, List.setIfInBounds_toArray, List.set_cons_zero, List.set_cons_succ]
                    refine wpAnyH_take (i := 22) (oi := ?_) (v := ?_) ?_ ?_ ?_ ?_ ?_ ?_ ?_ ?_
                    rotate_left 2
                    · simp only [List.getElem?_toArray, List.getElem?_cons_succ, List.getElem?_cons_zero]; rfl
                    · kernel_rfl
                    · kernel_rfl
                    · kernel_rfl
                    · exact fun _ _ _ h => h
                    · refine Or.inl ⟨by rfl, ?_⟩
                      intro w' hSw
                      (try dsimp only at hSw)
                      go_simp
                      all_goals (with_reducible rfl)
                    · assumption
                    try simp only [Act.put, List.setIfInBounds_toArray, List.set_cons_zero, List.set_cons_succ]
                    refine wpAnyH_take (i := 23) (oi := ?_) (v := ?_) ?_ ?_ ?_ ?_ ?_ ?_ ?_ ?_
                    rotate_left 2
                    · simp only [List.getElem?_toArray, List.getElem?_cons_succ, List.getElem?_cons_zero]; rfl
                    · kernel_rfl
                    · kernel_rfl
                    · kernel_rfl
                    · exact fun _ _ _ h => h
                    · refine Or.inl ⟨by rfl, ?_⟩
                      intro w' hSw
                      (try dsimp only at hSw)
                      go_simp
                      all_goals (with_reducible rfl)
                    · assumption
                    try simp only [Act.put, List.setIfInBounds_toArray, List.set_cons_zero, List.set_cons_succ]
                    refine wpAnyH_take (i := 24) (oi := ?_) (v := ?_) ?_ ?_ ?_ ?_ ?_ ?_ ?_ ?_
                    rotate_left 2
                    · simp only [List.getElem?_toArray, List.getElem?_cons_succ, List.getElem?_cons_zero]; rfl
                    · kernel_rfl
                    · kernel_rfl
                    · kernel_rfl
                    · exact fun _ _ _ h => h
                    · refine Or.inl ⟨by rfl, ?_⟩
                      intro w' hSw
                      (try dsimp only at hSw)
                      go_simp
                      all_goals (with_reducible rfl)
                    · assumption
                    try simp only [Act.put, List.setIfInBounds_toArray, List.set_cons_zero, List.set_cons_succ]
                    refine wpAnyH_take (i := 25) (oi := ?_) (v := ?_) ?_ ?_ ?_ ?_ ?_ ?_ ?_ ?_
                    rotate_left 2
                    · simp only [List.getElem?_toArray, List.getElem?_cons_succ, List.getElem?_cons_zero]; rfl
                    · kernel_rfl
                    · kernel_rfl
                    · kernel_rfl
                    · exact fun _ _ _ h => h
                    · refine Or.inl ⟨by rfl, ?_⟩
                      intro w' hSw
                      (try dsimp only at hSw)
                      go_simp
                      all_goals (with_reducible rfl)
                    · assumption
                    try simp only [Act.put, List.setIfInBounds_toArray, List.set_cons_zero, List.set_cons_succ]
                    refine wpAnyH_take (i := 26) (oi := ?_) (v := ?_) ?_ ?_ ?_ ?_ ?_ ?_ ?_ ?_
                    rotate_left 2
                    · simp only [List.getElem?_toArray, List.getElem?_cons_succ, List.getElem?_cons_zero]; rfl
                    · kernel_rfl
                    · kernel_rfl
                    · kernel_rfl
                    · exact fun _ _ _ h => h
                    · refine Or.inl ⟨by rfl, ?_⟩
                      intro w' hSw
                      (try dsimp only at hSw)
                      go_simp
                      all_goals (with_reducible rfl)
                    · assumption
                    try simp only [Act.put, List.setIfInBounds_toArray, List.set_cons_zero, List.set_cons_succ]
                    refine wpAnyH_take (i := 27) (oi := ?_) (v := ?_) ?_ ?_ ?_ ?_ ?_ ?_ ?_ ?_
                    rotate_left 2
                    · simp only [List.getElem?_toArray, List.getElem?_cons_succ, List.getElem?_cons_zero]; rfl
                    · kernel_rfl
                    · kernel_rfl
                    · kernel_rfl
                    · exact fun _ _ _ h => h
                    · refine Or.inl ⟨by rfl, ?_⟩
                      intro w' hSw
                      (try dsimp only at hSw)
                      go_simp
                      all_goals (with_reducible rfl)
                    · assumption
                    try simp only [Act.put, List.setIfInBounds_toArray, List.set_cons_zero, List.set_cons_succ]
                    refine wpAnyH_take (i := 28) (oi := ?_) (v := undef) ?_ ?_ ?_ ?_ ?_ ?_ ?_ ?_
                    rotate_left 1
                    · simp only [List.getElem?_toArray, List.getElem?_cons_succ, List.getElem?_cons_zero]; rfl
                    · kernel_rfl
                    · kernel_rfl
                    · kernel_rfl
                    · exact fun _ _ _ h => h
                    · exact Or.inr ⟨by kernel_rfl, rfl⟩
                    · assumption
                    try simp only [Act.put, List.setIfInBounds_toArray, List.set_cons_zero, List.set_cons_succ]
                    refine wpAnyH_take (i := 29) (oi := ?_) (v := undef) ?_ ?_ ?_ ?_ ?_ ?_ ?_ ?_
                    rotate_left 1
                    · simp only [List.getElem?_toArray, List.getElem?_cons_succ, List.getElem?_cons_zero]; rfl
                    · kernel_rfl
                    · kernel_rfl
                    · kernel_rfl
                    · exact fun _ _ _ h => h
                    · exact Or.inr ⟨by kernel_rfl, rfl⟩
                    · assumption
                    try simp only [Act.put, List.setIfInBounds_toArray, List.set_cons_zero, List.set_cons_succ]
                    refine wpAnyH_take (i := 30) (oi := ?_) (v := undef) ?_ ?_ ?_ ?_ ?_ ?_ ?_ ?_
                    rotate_left 1
                    · simp only [List.getElem?_toArray, List.getElem?_cons_succ, List.getElem?_cons_zero]; rfl
                    · kernel_rfl
                    · kernel_rfl
                    · kernel_rfl
                    · exact fun _ _ _ h => h
                    · exact Or.inr ⟨by kernel_rfl, rfl⟩
                    · assumption
                    try simp only [Act.put, List.setIfInBounds_toArray, List.set_cons_zero, List.set_cons_succ]
                    refine wpAnyH_take (i := 31) (oi := ?_) (v := undef) ?_ ?_ ?_ ?_ ?_ ?_ ?_ ?_
                    rotate_left 1
                    · simp only [List.getElem?_toArray, List.getElem?_cons_succ, List.getElem?_cons_zero]; rfl
                    · kernel_rfl
                    · kernel_rfl
                    · kernel_rfl
                    · exact fun _ _ _ h => h
                    · exact Or.inr ⟨by kernel_rfl, rfl⟩
                    · assumption
                    try simp only [Act.put, List.setIfInBounds_toArray, List.set_cons_zero, List.set_cons_succ]
                    refine wpAnyH_take (i := 32) (oi := ?_) (v := undef) ?_ ?_ ?_ ?_ ?_ ?_ ?_ ?_
                    rotate_left 1
                    · simp only [List.getElem?_toArray, List.getElem?_cons_succ, List.getElem?_cons_zero]; rfl
                    · kernel_rfl
                    · kernel_rfl
                    · kernel_rfl
                    · exact fun _ _ _ h => h
                    · exact Or.inr ⟨by kernel_rfl, rfl⟩
                    · assumption
                    try simp only [Act.put, List.setIfInBounds_toArray, List.set_cons_zero, List.set_cons_succ]
                    refine wpAnyH_take (i := 33) (oi := ?_) (v := undef) ?_ ?_ ?_ ?_ ?_ ?_ ?_ ?_
                    rotate_left 1
                    · simp only [List.getElem?_toArray, List.getElem?_cons_succ, List.getElem?_cons_zero]; rfl
                    · kernel_rfl
                    · kernel_rfl
                    · kernel_rfl
                    · exact fun _ _ _ h => h
                    · exact Or.inr ⟨by kernel_rfl, rfl⟩
                    · assumption
                    try simp only [Act.put, List.setIfInBounds_toArray, List.set_cons_zero, List.set_cons_succ]
                    refine wpAnyH_take (i := 34) (oi := ?_) (v := undef) ?_ ?_ ?_ ?_ ?_ ?_ ?_ ?_
                    rotate_left 1
                    · simp only [List.getElem?_toArray, List.getElem?_cons_succ, List.getElem?_cons_zero]; rfl
                    · kernel_rfl
                    · kernel_rfl
                    · kernel_rfl
                    · exact fun _ _ _ h => h
                    · exact Or.inr ⟨by kernel_rfl, rfl⟩
                    · assumption
                    try simp only [Act.put, List.setIfInBounds_toArray, List.set_cons_zero, List.set_cons_succ]
                    refine wpAnyH_take (i := 35) (oi := ?_) (v := ?_) ?_ ?_ ?_ ?_ ?_ ?_ ?_ ?_
                    rotate_left 2
                    · simp only [List.getElem?_toArray, List.getElem?_cons_succ, List.getElem?_cons_zero]; rfl
                    · kernel_rfl
                    · kernel_rfl
                    · kernel_rfl
                    · exact fun _ _ _ h => h
                    · refine Or.inl ⟨by rfl, ?_⟩
                      intro w' hSw
                      (try dsimp only at hSw)
                      go_simp
                      all_goals (with_reducible rfl)
                    · assumption
                    try simp only [Act.put, List.setIfInBounds_toArray, List.set_cons_zero, List.set_cons_succ]
                    refine wpAnyH_take (i := 36) (oi := ?_) (v := ?_) ?_ ?_ ?_ ?_ ?_ ?_ ?_ ?_
                    rotate_left 2
                    · simp only [List.getElem?_toArray, List.getElem?_cons_succ, List.getElem?_cons_zero]; rfl
                    · kernel_rfl
                    · kernel_rfl
                    · kernel_rfl
                    · exact fun _ _ _ h => h
                    · refine Or.inl ⟨by rfl, ?_⟩
                      intro w' hSw
                      (try dsimp only at hSw)
                      go_simp
                      all_goals (with_reducible rfl)
                    · assumption
                    try simp only [Act.put, List.setIfInBounds_toArray, List.set_cons_zero, List.set_cons_succ]
                    refine wpAnyH_take (i := 37) (oi := ?_) (v := ?_) ?_ ?_ ?_ ?_ ?_ ?_ ?_ ?_
                    rotate_left 2
                    · simp only [List.getElem?_toArray, List.getElem?_cons_succ, List.getElem?_cons_zero]; rfl
                    · kernel_rfl
                    · kernel_rfl
                    · kernel_rfl
                    · exact fun _ _ _ h => h
                    · refine Or.inl ⟨by rfl, ?_⟩
                      intro w' hSw
                      (try dsimp only at hSw)
                      go_simp
                      all_goals (with_reducible rfl)
                    · assumption
                    try simp only [Act.put, List.setIfInBounds_toArray, List.set_cons_zero, List.set_cons_succ]
                    refine wpAnyH_take (i := 38) (oi := ?_) (v := ?_) ?_ ?_ ?_ ?_ ?_ ?_ ?_ ?_
                    rotate_left 2
                    · simp only [List.getElem?_toArray, List.getElem?_cons_succ, List.getElem?_cons_zero]; rfl
                    · kernel_rfl
                    · kernel_rfl
                    · kernel_rfl
                    · exact fun _ _ _ h => h
                    · refine Or.inl ⟨by rfl, ?_⟩
                      intro w' hSw
                      (try dsimp only at hSw)
                      go_simp
                      all_goals (with_reducible rfl)
                    · assumption
                    try simp only [Act.put, List.setIfInBounds_toArray, List.set_cons_zero, List.set_cons_succ]
                    refine wpAnyH_take (i := 39) (oi := ?_) (v := ?_) ?_ ?_ ?_ ?_ ?_ ?_ ?_ ?_
                    rotate_left 2
                    · simp only [List.getElem?_toArray, List.getElem?_cons_succ, List.getElem?_cons_zero]; rfl
                    · kernel_rfl
                    · kernel_rfl
                    · kernel_rfl
                    · exact fun _ _ _ h => h
                    · refine Or.inl ⟨by rfl, ?_⟩
                      intro w' hSw
                      (try dsimp only at hSw)
                      go_simp
                      all_goals (with_reducible rfl)
                    · assumption
                    try simp only [Act.put, List.setIfInBounds_toArray, List.set_cons_zero, List.set_cons_succ]
                    refine wpAnyH_take (i := 40) (oi := ?_) (v := ?_) ?_ ?_ ?_ ?_ ?_ ?_ ?_ ?_
                    rotate_left 2
                    · simp only [List.getElem?_toArray, List.getElem?_cons_succ, List.getElem?_cons_zero]; rfl
                    · kernel_rfl
                    · kernel_rfl
                    · kernel_rfl
                    · exact fun _ _ _ h => h
                    · refine Or.inl ⟨by rfl, ?_⟩
                      intro w' hSw
                      (try dsimp only at hSw)
                      go_simp
                      all_goals (with_reducible rfl)
                    · assumption
                    try simp only [Act.put, List.setIfInBounds_toArray, List.set_cons_zero, List.set_cons_succ]
                    refine wpAnyH_take (i := 41) (oi := ?_) (v := ?_) ?_ ?_ ?_ ?_ ?_ ?_ ?_ ?_
                    rotate_left 2
                    · simp only [List.getElem?_toArray, List.getElem?_cons_succ, List.getElem?_cons_zero]; rfl
                    · kernel_rfl
                    · kernel_rfl
                    · kernel_rfl
                    · exact fun _ _ _ h => h
                    · refine Or.inl ⟨by rfl, ?_⟩
                      intro w' hSw
                      (try dsimp only at hSw)
                      go_simp
                      all_goals (with_reducible rfl)
                    · assumption
                    try simp only [Act.put, List.setIfInBounds_toArray, List.set_cons_zero, List.set_cons_succ]
                    refine wpAnyH_take (i := 43) (oi := ?_) (v := ?_) ?_ ?_ ?_ ?_ ?_ ?_ ?_ ?_
                    rotate_left 2
                    · simp only [List.getElem?_toArray, List.getElem?_cons_succ, List.getElem?_cons_zero]; rfl
                    · kernel_rfl
                    · kernel_rfl
                    · kernel_rfl
                    · exact fun _ _ _ h => h
                    · refine Or.inl ⟨by rfl, ?_⟩
                      intro w' hSw
                      (try dsimp only at hSw)
                      go_simp
                      all_goals (with_reducible rfl)
                    · assumption
                    try simp only [Act.put, List.setIfInBounds_toArray, List.set_cons_zero, List.set_cons_succ]
                    refine wpAnyH_ready (rs := [42]) (by kernel_rfl) (by simp) ?_
                    refine AllReadyH.cons (o := ?_) ?_ ?_ ?_
                    rotate_left 1
                    · simp only [List.getElem?_toArray, List.getElem?_cons_succ, List.getElem?_cons_zero]; rfl
                    rotate_left 1
                    · exact AllReadyH.nil
                    intro K hK
                    go_simp
                    ((with_reducible refine (CI.out s _ (G.below_on BD.out B1.out)).mono ?_); rintro e wj ⟨rfl, bi⟩; have B2' := Lib.hid bi; clear bi)
                    refine hK.out _ _ (HSS.out _ (G.below_on (G.below_on BD.out B1.out) B2'.out)) (fun hHeld => ?_)
                    clear hK K
                    try simp only [Act.put, List.setIfInBounds_toArray, List.set_cons_zero, List.set_cons_succ]
                    refine wpAnyH_take (i := 44) (oi := ?_) (v := ?_) ?_ ?_ ?_ ?_ ?_ ?_ ?_ ?_
                    rotate_left 2
                    · simp only [List.getElem?_toArray, List.getElem?_cons_succ, List.getElem?_cons_zero]; rfl
                    · kernel_rfl
                    · kernel_rfl
                    · kernel_rfl
                    · exact fun _ _ _ h => h
                    · refine Or.inl ⟨by rfl, ?_⟩
                      intro w' hSw
                      (try dsimp only at hSw)
                      go_simp
                      all_goals (with_reducible rfl)
                    · assumption
                    try simp only [Act.put, List.setIfInBounds_toArray, List.set_cons_zero, List.set_cons_succ]
                    refine wpAnyH_take (i := 45) (oi := ?_) (v := ?_) ?_ ?_ ?_ ?_ ?_ ?_ ?_ ?_
                    rotate_left 2
                    · simp only [List.getElem?_toArray, List.getElem?_cons_succ, List.getElem?_cons_zero]; rfl
                    · kernel_rfl
                    · kernel_rfl
                    · kernel_rfl
                    · exact fun _ _ _ h => h
                    · refine Or.inl ⟨by rfl, ?_⟩
                      intro w' hSw
                      (try dsimp only at hSw)
                      go_simp
                      all_goals (with_reducible rfl)
                    · assumption
                    try simp only [Act.put, List.setIfInBounds_toArray, List.set_cons_zero, List.set_cons_succ]
                    refine wpAnyH_take (i := 46) (oi := ?_) (v := ?_) ?_ ?_ ?_ ?_ ?_ ?_ ?_ ?_
                    rotate_left 2
                    · simp only [List.getElem?_toArray, List.getElem?_cons_succ, List.getElem?_cons_zero]; rfl
                    · kernel_rfl
                    · kernel_rfl
                    · kernel_rfl
                    · exact fun _ _ _ h => h
                    · refine Or.inl ⟨by rfl, ?_⟩
                      intro w' hSw
                      (try dsimp only at hSw)
                      go_simp
                      all_goals (with_reducible rfl)
                    · assumption
                    try simp only [Act.put, List.setIfInBounds_toArray, List.set_cons_zero, List.set_cons_succ]
                    refine wpAnyH_take (i := 47) (oi := ?_) (v := ?_) ?_ ?_ ?_ ?_ ?_ ?_ ?_ ?_
                    rotate_left 2
                    · simp only [List.getElem?_toArray, List.getElem?_cons_succ, List.getElem?_cons_zero]; rfl
                    · kernel_rfl
                    · kernel_rfl
                    · kernel_rfl
                    · exact fun _ _ _ h => h
                    · refine Or.inl ⟨by rfl, ?_⟩
                      intro w' hSw
                      (try dsimp only at hSw)
                      go_simp
                      all_goals (with_reducible rfl)
                    · assumption
                    try simp only [Act.put, List.setIfInBounds_toArray, List.set_cons_zero, List.set_cons_succ]
                    refine wpAnyH_take (i := 48) (oi := ?_) (v := ?_) ?_ ?_ ?_ ?_ ?_ ?_ ?_ ?_
                    rotate_left 2
                    · simp only [List.getElem?_toArray, List.getElem?_cons_succ, List.getElem?_cons_zero]; rfl
                    · kernel_rfl
                    · kernel_rfl
                    · kernel_rfl
                    · exact fun _ _ _ h => h
                    · refine Or.inl ⟨by rfl, ?_⟩
                      intro w' hSw
                      (try dsimp only at hSw)
                      go_simp
                      all_goals (with_reducible rfl)
                    · assumption
                    try simp only [Act.put, List.setIfInBounds_toArray, List.set_cons_zero, List.set_cons_succ]
                    refine wpAnyH_take (i := 49) (oi := ?_) (v := ?_) ?_ ?_ ?_ ?_ ?_ ?_ ?_ ?_
                    rotate_left 2
                    · simp only [List.getElem?_toArray, List.getElem?_cons_succ, List.getElem?_cons_zero]; rfl
                    · kernel_rfl
                    · kernel_rfl
                    · kernel_rfl
                    · exact fun _ _ _ h => h
                    · refine Or.inl ⟨by rfl, ?_⟩
                      intro w' hSw
                      (try dsimp only at hSw)
                      go_simp
                      all_goals (with_reducible rfl)
                    · assumption
                    try simp only [Act.put, List.setIfInBounds_toArray, List.set_cons_zero, List.set_cons_succ]
                    refine wpAnyH_take (i := 50) (oi := ?_) (v := ?_) ?_ ?_ ?_ ?_ ?_ ?_ ?_ ?_
                    rotate_left 2
                    · simp only [List.getElem?_toArray, List.getElem?_cons_succ, List.getElem?_cons_zero]; rfl
                    · kernel_rfl
                    · kernel_rfl
                    · kernel_rfl
                    · exact fun _ _ _ h => h
                    · refine Or.inl ⟨by rfl, ?_⟩
                      intro w' hSw
                      (try dsimp only at hSw)
                      go_simp
                      all_goals (with_reducible rfl)
                    · assumption
                    try simp only [Act.put, List.setIfInBounds_toArray, List.set_cons_zero, List.set_cons_succ]
                    refine wpAnyH_take (i := 51) (oi := ?_) (v := ?_) ?_ ?_ ?_ ?_ ?_ ?_ ?_ ?_
                    rotate_left 2
                    · simp only [List.getElem?_toArray, List.getElem?_cons_succ, List.getElem?_cons_zero]; rfl
                    · kernel_rfl
                    · kernel_rfl
                    · kernel_rfl
                    · exact fun _ _ _ h => h
                    · refine Or.inl ⟨by rfl, ?_⟩
                      intro w' hSw
                      (try dsimp only at hSw)
                      go_simp
                      all_goals (with_reducible rfl)
                    · assumption
                    try simp only [Act.put, List.setIfInBounds_toArray, List.set_cons_zero, List.set_cons_succ]
                    refine wpAnyH_take (i := 52) (oi := ?_) (v := ?_) ?_ ?_ ?_ ?_ ?_ ?_ ?_ ?_
                    rotate_left 2
                    · simp only [List.getElem?_toArray, List.getElem?_cons_succ, List.getElem?_cons_zero]; rfl
                    · kernel_rfl
                    · kernel_rfl
                    · kernel_rfl
                    · exact fun _ _ _ h => h
                    · refine Or.inl ⟨by rfl, ?_⟩
                      intro w' hSw
                      (try dsimp only at hSw)
                      go_simp
                      all_goals (with_reducible rfl)
                    · assumption
                    try simp only [Act.put, List.setIfInBounds_toArray, List.set_cons_zero, List.set_cons_succ]
                    refine wpAnyH_take (i := 53) (oi := ?_) (v := ?_) ?_ ?_ ?_ ?_ ?_ ?_ ?_ ?_
                    rotate_left 2
                    · simp only [List.getElem?_toArray, List.getElem?_cons_succ, List.getElem?_cons_zero]; rfl
                    · kernel_rfl
                    · kernel_rfl
                    · kernel_rfl
                    · exact fun _ _ _ h => h
                    · refine Or.inl ⟨by rfl, ?_⟩
                      intro w' hSw
                      (try dsimp only at hSw)
                      go_simp
                      all_goals (with_reducible rfl)
                    · assumption
                    try simp only [Act.put, List.setIfInBounds_toArray, List.set_cons_zero, List.set_cons_succ]
                    refine wpAnyH_take (i := 54) (oi := ?_) (v := ?_) ?_ ?_ ?_ ?_ ?_ ?_ ?_ ?_
                    rotate_left 2
                    · simp only [List.getElem?_toArray, List.getElem?_cons_succ, List.getElem?_cons_zero]; rfl
                    · kernel_rfl
                    · kernel_rfl
                    · kernel_rfl
                    · exact fun _ _ _ h => h
                    · refine Or.inl ⟨by rfl, ?_⟩
                      intro w' hSw
                      (try dsimp only at hSw)
                      go_simp
                      all_goals (with_reducible rfl)
                    · assumption
                    try simp only [Act.put, List.setIfInBounds_toArray, List.set_cons_zero, List.set_cons_succ]
                    refine wpAnyH_done (by kernel_rfl) ?_ _
                    have BJ := Lib.hid (show Below wk.heap.size wk wj from G.below_on (G.below_on (below_draws (Below.refl _ _) 1) B1.out) B2'.out)
                    clear hHeld
                    go_wp2
                    go_roundg (i + 2 - (d + 1))
                    case measure => have := HK3.out; have := HZ.out; omega
                    case rel => exact ⟨d + 1, by have := HZ.out; omega, by have := HZ.out; omega, congrArg (Value.int .i64) (by have := HZ.out; omega), BQ.out.trans ((BK.out.trans (BJ.out.mono BK.out.size)).mono BQ.out.size)⟩
                  | false =>
                    have CKY := Lib.hid (key_no z wq KSq.out.ki hh)
                    have CI := Lib.hid (fun (s : ByteArray) W (hb : Below wq.heap.size wq W) => show Calls Try.prog 12 #[.pointer (some ⟨b, 0, none⟩), .int .i64 z, .string s] W (fun e w' => e = .returned (.bool false) ∧ Below W.heap.size W w') from by
                      have := is_any z s W (KSq.out.ki.keep hb)
                      rwa [isB_no hh] at this)
                    have HSS := Lib.hid (fun W (hb : Below wq.heap.size wq W) => show (W.cell? ⟨cb, 2, none⟩ = some (.string s)) from by rw [blk_cell (Rq.out.keep hb)]; rfl)
                    go_upto_region 35 with (fail)
                    go_cut [15] from 116 to 194 (fun s15 wx => s15 = .bool false ∧ wx = wq)
                    case first =>
                      have hund : undef = Value.tuple #[] := rfl
                      have hcase : (z < 0) ∨ (0 ≤ z ∧ (i : Int) ≤ z) ∨ (∃ p : Nat, z = (p : Int) ∧ p < i ∧ (K' p).isSome = false) := by
                        by_cases h1 : z < 0
                        · exact Or.inl h1
                        · by_cases h2 : (i : Int) ≤ z
                          · exact Or.inr (Or.inl ⟨by omega, h2⟩)
                          · refine Or.inr (Or.inr ⟨z.toNat, by omega, by omega, ?_⟩)
                            have e5 : decide (0 ≤ z) = true := by rw [decide_eq_true_eq]; omega
                            have e6 : decide (z < (i : Int)) = true := by rw [decide_eq_true_eq]; omega
                            unfold hasB at hh
                            rw [e5, e6] at hh
                            exact hh
                      clear hh
                      rcases hcase with h1 | ⟨h1, h2⟩ | ⟨p, rfl, hpi, hkp⟩
                      · have t3 : decide ((0 : Int) ≤ z) = false := by rw [decide_eq_false_iff_not]; omega
                        go_wp2
                        go_meet
                        case rel => exact ⟨rfl, rfl⟩
                      · have t3 : decide ((0 : Int) ≤ z) = true := by rw [decide_eq_true_eq]; omega
                        have t4 : decide (z < (i : Int)) = false := by rw [decide_eq_false_iff_not]; omega
                        go_wp2
                        go_meet
                        case rel => exact ⟨rfl, rfl⟩
                      · have t1 : (0 : Int) ≤ (p : Int) := by omega
                        have t2 : (p : Int) < (i : Int) := by omega
                        have t3 : decide ((0 : Int) ≤ (p : Int)) = true := by rw [decide_eq_true_eq]; omega
                        have t4 : decide ((p : Int) < (i : Int)) = true := by rw [decide_eq_true_eq]; omega
                        have t4' : decide (p < i) = true := by rw [decide_eq_true_eq]; omega
                        have hcp : wq.cell? ⟨hb, p, none⟩ = some (.bool false) := by rw [blk_cell KSq.out.hs, hasC_get _ _ _ hpi, hkp]
                        clear hkp hpi
                        go_wp2
                        go_meet
                        case rel => exact ⟨rfl, rfl⟩
                    case rest =>
                      obtain ⟨rfl, rfl⟩ := hcut
                      clear hh
                      go_upto_region 37 with (go_at_call 11; ((with_reducible refine CKY.out.mono ?_); rintro e wk ⟨rfl, hk⟩))
                      subst hk
                      refine wp_region_held_drew (S := fun w' => w'.cell? ⟨cb, 2, none⟩ = some (.string s)) (by kernel_rfl) (HSS.out _ (below_draws (Below.refl _ _) 1)) (fun hHeld => ?_)
                      have BK := Lib.hid (Below.refl wc.heap.size wc)
                      have BD := Lib.hid (show Below wc.heap.size wc wc.drew from below_draws (Below.refl _ _) 1)
                      refine wpAnyH_take (i := 0) (oi := ?_) (v := ?_) ?_ ?_ ?_ ?_ ?_ ?_ ?_ ?_
                      rotate_left 2
                      · simp only [List.getElem?_toArray, List.getElem?_cons_succ, List.getElem?_cons_zero]; rfl
                      · kernel_rfl
                      · kernel_rfl
                      · kernel_rfl
                      · exact fun _ _ _ h => h
                      · refine Or.inl ⟨by rfl, ?_⟩
                        intro w' hSw
                        (try dsimp only at hSw)
                        go_simp
                        all_goals (with_reducible rfl)
                      · assumption
                      try simp only [Act.put, List.setIfInBounds_toArray, List.set_cons_zero, List.set_cons_succ]
                      refine wpAnyH_take (i := 1) (oi := ?_) (v := ?_) ?_ ?_ ?_ ?_ ?_ ?_ ?_ ?_
                      rotate_left 2
                      · simp only [List.getElem?_toArray, List.getElem?_cons_succ, List.getElem?_cons_zero]; rfl
                      · kernel_rfl
                      · kernel_rfl
                      · kernel_rfl
                      · exact fun _ _ _ h => h
                      · refine Or.inl ⟨by rfl, ?_⟩
                        intro w' hSw
                        (try dsimp only at hSw)
                        go_simp
                        all_goals (with_reducible rfl)
                      · assumption
                      try simp only [Act.put, List.setIfInBounds_toArray, List.set_cons_zero, List.set_cons_succ]
                      refine wpAnyH_take (i := 2) (oi := ?_) (v := ?_) ?_ ?_ ?_ ?_ ?_ ?_ ?_ ?_
                      rotate_left 2
                      · simp only [List.getElem?_toArray, List.getElem?_cons_succ, List.getElem?_cons_zero]; rfl
                      · kernel_rfl
                      · kernel_rfl
                      · kernel_rfl
                      · exact fun _ _ _ h => h
                      · refine Or.inl ⟨by rfl, ?_⟩
                        intro w' hSw
                        (try dsimp only at hSw)
                        go_simp
                        all_goals (with_reducible rfl)
                      · assumption
                      try simp only [Act.put, List.setIfInBounds_toArray, List.set_cons_zero, List.set_cons_succ]
                      refine wpAnyH_take (i := 3) (oi := ?_) (v := ?_) ?_ ?_ ?_ ?_ ?_ ?_ ?_ ?_
                      rotate_left 2
                      · simp only [List.getElem?_toArray, List.getElem?_cons_succ, List.getElem?_cons_zero]; rfl
                      · kernel_rfl
                      · kernel_rfl
                      · kernel_rfl
                      · exact fun _ _ _ h => h
                      · refine Or.inl ⟨by rfl, ?_⟩
                        intro w' hSw
                        (try dsimp only at hSw)
                        go_simp
                        all_goals (with_reducible rfl)
                      · assumption
                      try simp only [Act.put, List.setIfInBounds_toArray, List.set_cons_zero, List.set_cons_succ]
                      refine wpAnyH_take (i := 4) (oi := ?_) (v := ?_) ?_ ?_ ?_ ?_ ?_ ?_ ?_ ?_
                      rotate_left 2
                      · simp only [List.getElem?_toArray, List.getElem?_cons_succ, List.getElem?_cons_zero]; rfl
                      · kernel_rfl
                      · kernel_rfl
                      · kernel_rfl
                      · exact fun _ _ _ h => h
                      · refine Or.inl ⟨by rfl, ?_⟩
                        intro w' hSw
                        (try dsimp only at hSw)
                        go_simp
                        all_goals (with_reducible rfl)
                      · assumption
                      try simp only [Act.put, List.setIfInBounds_toArray, List.set_cons_zero, List.set_cons_succ]
                      refine wpAnyH_take (i := 5) (oi := ?_) (v := ?_) ?_ ?_ ?_ ?_ ?_ ?_ ?_ ?_
                      rotate_left 2
                      · simp only [List.getElem?_toArray, List.getElem?_cons_succ, List.getElem?_cons_zero]; rfl
                      · kernel_rfl
                      · kernel_rfl
                      · kernel_rfl
                      · exact fun _ _ _ h => h
                      · refine Or.inl ⟨by rfl, ?_⟩
                        intro w' hSw
                        (try dsimp only at hSw)
                        go_simp
                        all_goals (with_reducible rfl)
                      · assumption
                      try simp only [Act.put, List.setIfInBounds_toArray, List.set_cons_zero, List.set_cons_succ]
                      refine wpAnyH_take (i := 6) (oi := ?_) (v := undef) ?_ ?_ ?_ ?_ ?_ ?_ ?_ ?_
                      rotate_left 1
                      · simp only [List.getElem?_toArray, List.getElem?_cons_succ, List.getElem?_cons_zero]; rfl
                      · kernel_rfl
                      · kernel_rfl
                      · kernel_rfl
                      · exact fun _ _ _ h => h
                      · exact Or.inr ⟨by kernel_rfl, rfl⟩
                      · assumption
                      try simp only [Act.put, List.setIfInBounds_toArray, List.set_cons_zero, List.set_cons_succ]
                      refine wpAnyH_take (i := 7) (oi := ?_) (v := undef) ?_ ?_ ?_ ?_ ?_ ?_ ?_ ?_
                      rotate_left 1
                      · simp only [List.getElem?_toArray, List.getElem?_cons_succ, List.getElem?_cons_zero]; rfl
                      · kernel_rfl
                      · kernel_rfl
                      · kernel_rfl
                      · exact fun _ _ _ h => h
                      · exact Or.inr ⟨by kernel_rfl, rfl⟩
                      · assumption
                      try simp only [Act.put, List.setIfInBounds_toArray, List.set_cons_zero, List.set_cons_succ]
                      refine wpAnyH_take (i := 8) (oi := ?_) (v := undef) ?_ ?_ ?_ ?_ ?_ ?_ ?_ ?_
                      rotate_left 1
                      · simp only [List.getElem?_toArray, List.getElem?_cons_succ, List.getElem?_cons_zero]; rfl
                      · kernel_rfl
                      · kernel_rfl
                      · kernel_rfl
                      · exact fun _ _ _ h => h
                      · exact Or.inr ⟨by kernel_rfl, rfl⟩
                      · assumption
                      try simp only [Act.put, List.setIfInBounds_toArray, List.set_cons_zero, List.set_cons_succ]
                      refine wpAnyH_take (i := 9) (oi := ?_) (v := undef) ?_ ?_ ?_ ?_ ?_ ?_ ?_ ?_
                      rotate_left 1
                      · simp only [List.getElem?_toArray, List.getElem?_cons_succ, List.getElem?_cons_zero]; rfl
                      · kernel_rfl
                      · kernel_rfl
                      · kernel_rfl
                      · exact fun _ _ _ h => h
                      · exact Or.inr ⟨by kernel_rfl, rfl⟩
                      · assumption
                      try simp only [Act.put, List.setIfInBounds_toArray, List.set_cons_zero, List.set_cons_succ]
                      refine wpAnyH_take (i := 10) (oi := ?_) (v := undef) ?_ ?_ ?_ ?_ ?_ ?_ ?_ ?_
                      rotate_left 1
                      · simp only [List.getElem?_toArray, List.getElem?_cons_succ, List.getElem?_cons_zero]; rfl
                      · kernel_rfl
                      · kernel_rfl
                      · kernel_rfl
                      · exact fun _ _ _ h => h
                      · exact Or.inr ⟨by kernel_rfl, rfl⟩
                      · assumption
                      try simp only [Act.put, List.setIfInBounds_toArray, List.set_cons_zero, List.set_cons_succ]
                      refine wpAnyH_take (i := 11) (oi := ?_) (v := undef) ?_ ?_ ?_ ?_ ?_ ?_ ?_ ?_
                      rotate_left 1
                      · simp only [List.getElem?_toArray, List.getElem?_cons_succ, List.getElem?_cons_zero]; rfl
                      · kernel_rfl
                      · kernel_rfl
                      · kernel_rfl
                      · exact fun _ _ _ h => h
                      · exact Or.inr ⟨by kernel_rfl, rfl⟩
                      · assumption
                      try simp only [Act.put, List.setIfInBounds_toArray, List.set_cons_zero, List.set_cons_succ]
                      refine wpAnyH_take (i := 12) (oi := ?_) (v := undef) ?_ ?_ ?_ ?_ ?_ ?_ ?_ ?_
                      rotate_left 1
                      · simp only [List.getElem?_toArray, List.getElem?_cons_succ, List.getElem?_cons_zero]; rfl
                      · kernel_rfl
                      · kernel_rfl
                      · kernel_rfl
                      · exact fun _ _ _ h => h
                      · exact Or.inr ⟨by kernel_rfl, rfl⟩
                      · assumption
                      try simp only [Act.put, List.setIfInBounds_toArray, List.set_cons_zero, List.set_cons_succ]
                      refine wpAnyH_take (i := 13) (oi := ?_) (v := undef) ?_ ?_ ?_ ?_ ?_ ?_ ?_ ?_
                      rotate_left 1
                      · simp only [List.getElem?_toArray, List.getElem?_cons_succ, List.getElem?_cons_zero]; rfl
                      · kernel_rfl
                      · kernel_rfl
                      · kernel_rfl
                      · exact fun _ _ _ h => h
                      · exact Or.inr ⟨by kernel_rfl, rfl⟩
                      · assumption
                      try simp only [Act.put, List.setIfInBounds_toArray, List.set_cons_zero, List.set_cons_succ]
                      refine wpAnyH_take (i := 14) (oi := ?_) (v := undef) ?_ ?_ ?_ ?_ ?_ ?_ ?_ ?_
                      rotate_left 1
                      · simp only [List.getElem?_toArray, List.getElem?_cons_succ, List.getElem?_cons_zero]; rfl
                      · kernel_rfl
                      · kernel_rfl
                      · kernel_rfl
                      · exact fun _ _ _ h => h
                      · exact Or.inr ⟨by kernel_rfl, rfl⟩
                      · assumption
                      try simp only [Act.put, List.setIfInBounds_toArray, List.set_cons_zero, List.set_cons_succ]
                      refine wpAnyH_take (i := 15) (oi := ?_) (v := undef) ?_ ?_ ?_ ?_ ?_ ?_ ?_ ?_
                      rotate_left 1
                      · simp only [List.getElem?_toArray, List.getElem?_cons_succ, List.getElem?_cons_zero]; rfl
                      · kernel_rfl
                      · kernel_rfl
                      · kernel_rfl
                      · exact fun _ _ _ h => h
                      · exact Or.inr ⟨by kernel_rfl, rfl⟩
                      · assumption
                      try simp only [Act.put, List.setIfInBounds_toArray, List.set_cons_zero, List.set_cons_succ]
                      refine wpAnyH_take (i := 16) (oi := ?_) (v := undef) ?_ ?_ ?_ ?_ ?_ ?_ ?_ ?_
                      rotate_left 1
                      · simp only [List.getElem?_toArray, List.getElem?_cons_succ, List.getElem?_cons_zero]; rfl
                      · kernel_rfl
                      · kernel_rfl
                      · kernel_rfl
                      · exact fun _ _ _ h => h
                      · exact Or.inr ⟨by kernel_rfl, rfl⟩
                      · assumption
                      try simp only [Act.put, List.setIfInBounds_toArray, List.set_cons_zero, List.set_cons_succ]
                      refine wpAnyH_take (i := 17) (oi := ?_) (v := undef) ?_ ?_ ?_ ?_ ?_ ?_ ?_ ?_
                      rotate_left 1
                      · simp only [List.getElem?_toArray, List.getElem?_cons_succ, List.getElem?_cons_zero]; rfl
                      · kernel_rfl
                      · kernel_rfl
                      · kernel_rfl
                      · exact fun _ _ _ h => h
                      · exact Or.inr ⟨by kernel_rfl, rfl⟩
                      · assumption
                      try simp only [Act.put, List.setIfInBounds_toArray, List.set_cons_zero, List.set_cons_succ]
                      refine wpAnyH_take (i := 18) (oi := ?_) (v := undef) ?_ ?_ ?_ ?_ ?_ ?_ ?_ ?_
                      rotate_left 1
                      · simp only [List.getElem?_toArray, List.getElem?_cons_succ, List.getElem?_cons_zero]; rfl
                      · kernel_rfl
                      · kernel_rfl
                      · kernel_rfl
                      · exact fun _ _ _ h => h
                      · exact Or.inr ⟨by kernel_rfl, rfl⟩
                      · assumption
                      try simp only [Act.put, List.setIfInBounds_toArray, List.set_cons_zero, List.set_cons_succ]
                      refine wpAnyH_take (i := 19) (oi := ?_) (v := undef) ?_ ?_ ?_ ?_ ?_ ?_ ?_ ?_
                      rotate_left 1
                      · simp only [List.getElem?_toArray, List.getElem?_cons_succ, List.getElem?_cons_zero]; rfl
                      · kernel_rfl
                      · kernel_rfl
                      · kernel_rfl
                      · exact fun _ _ _ h => h
                      · exact Or.inr ⟨by kernel_rfl, rfl⟩
                      · assumption
                      try simp only [Act.put, List.setIfInBounds_toArray, List.set_cons_zero, List.set_cons_succ]
                      refine wpAnyH_take (i := 20) (oi := ?_) (v := undef) ?_ ?_ ?_ ?_ ?_ ?_ ?_ ?_
                      rotate_left 1
                      · simp only [List.getElem?_toArray, List.getElem?_cons_succ, List.getElem?_cons_zero]; rfl
                      · kernel_rfl
                      · kernel_rfl
                      · kernel_rfl
                      · exact fun _ _ _ h => h
                      · exact Or.inr ⟨by kernel_rfl, rfl⟩
                      · assumption
                      try simp only [Act.put, List.setIfInBounds_toArray, List.set_cons_zero, List.set_cons_succ]
                      refine wpAnyH_take (i := 21) (oi := ?_) (v := undef) ?_ ?_ ?_ ?_ ?_ ?_ ?_ ?_
                      rotate_left 1
                      · simp only [List.getElem?_toArray, List.getElem?_cons_succ, List.getElem?_cons_zero]; rfl
                      · kernel_rfl
                      · kernel_rfl
                      · kernel_rfl
                      · exact fun _ _ _ h => h
                      · exact Or.inr ⟨by kernel_rfl, rfl⟩
                      · assumption
                      try simp only [Act.put, List.setIfInBounds_toArray, List.set_cons_zero, List.set_cons_succ]
                      refine wpAnyH_take (i := 22) (oi := ?_) (v := ?_) ?_ ?_ ?_ ?_ ?_ ?_ ?_ ?_
                      rotate_left 2
                      · simp only [List.getElem?_toArray, List.getElem?_cons_succ, List.getElem?_cons_zero]; rfl
                      · kernel_rfl
                      · kernel_rfl
                      · kernel_rfl
                      · exact fun _ _ _ h => h
                      · refine Or.inl ⟨by rfl, ?_⟩
                        intro w' hSw
                        (try dsimp only at hSw)
                        go_simp
                        all_goals (with_reducible rfl)
                      · assumption
                      try simp only [Act.put, List.setIfInBounds_toArray, List.set_cons_zero, List.set_cons_succ]
                      refine wpAnyH_take (i := 23) (oi := ?_) (v := ?_) ?_ ?_ ?_ ?_ ?_ ?_ ?_ ?_
                      rotate_left 2
                      · simp only [List.getElem?_toArray, List.getElem?_cons_succ, List.getElem?_cons_zero]; rfl
                      · kernel_rfl
                      · kernel_rfl
                      · kernel_rfl
                      · exact fun _ _ _ h => h
                      · refine Or.inl ⟨by rfl, ?_⟩
                        intro w' hSw
                        (try dsimp only at hSw)
                        go_simp
                        all_goals (with_reducible rfl)
                      · assumption
                      try simp only [Act.put, List.setIfInBounds_toArray, List.set_cons_zero, List.set_cons_succ]
                      refine wpAnyH_take (i := 24) (oi := ?_) (v := ?_) ?_ ?_ ?_ ?_ ?_ ?_ ?_ ?_
                      rotate_left 2
                      · simp only [List.getElem?_toArray, List.getElem?_cons_succ, List.getElem?_cons_zero]; rfl
                      · kernel_rfl
                      · kernel_rfl
                      · kernel_rfl
                      · exact fun _ _ _ h => h
                      · refine Or.inl ⟨by rfl, ?_⟩
                        intro w' hSw
                        (try dsimp only at hSw)
                        go_simp
                        all_goals (with_reducible rfl)
                      · assumption
                      try simp only [Act.put, List.setIfInBounds_toArray, List.set_cons_zero, List.set_cons_succ]
                      refine wpAnyH_take (i := 25) (oi := ?_) (v := ?_) ?_ ?_ ?_ ?_ ?_ ?_ ?_ ?_
                      rotate_left 2
                      · simp only [List.getElem?_toArray, List.getElem?_cons_succ, List.getElem?_cons_zero]; rfl
                      · kernel_rfl
                      · kernel_rfl
                      · kernel_rfl
                      · exact fun _ _ _ h => h
                      · refine Or.inl ⟨by rfl, ?_⟩
                        intro w' hSw
                        (try dsimp only at hSw)
                        go_simp
                        all_goals (with_reducible rfl)
                      · assumption
                      try simp only [Act.put, List.setIfInBounds_toArray, List.set_cons_zero, List.set_cons_succ]
                      refine wpAnyH_take (i := 26) (oi := ?_) (v := ?_) ?_ ?_ ?_ ?_ ?_ ?_ ?_ ?_
                      rotate_left 2
                      · simp only [List.getElem?_toArray, List.getElem?_cons_succ, List.getElem?_cons_zero]; rfl
                      · kernel_rfl
                      · kernel_rfl
                      · kernel_rfl
                      · exact fun _ _ _ h => h
                      · refine Or.inl ⟨by rfl, ?_⟩
                        intro w' hSw
                        (try dsimp only at hSw)
                        go_simp
                        all_goals (with_reducible rfl)
                      · assumption
                      try simp only [Act.put, List.setIfInBounds_toArray, List.set_cons_zero, List.set_cons_succ]
                      refine wpAnyH_take (i := 27) (oi := ?_) (v := ?_) ?_ ?_ ?_ ?_ ?_ ?_ ?_ ?_
                      rotate_left 2
                      · simp only [List.getElem?_toArray, List.getElem?_cons_succ, List.getElem?_cons_zero]; rfl
                      · kernel_rfl
                      · kernel_rfl
                      · kernel_rfl
                      · exact fun _ _ _ h => h
                      · refine Or.inl ⟨by rfl, ?_⟩
                        intro w' hSw
                        (try dsimp only at hSw)
                        go_simp
                        all_goals (with_reducible rfl)
                      · assumption
                      try simp only [Act.put, List.setIfInBounds_toArray, List.set_cons_zero, List.set_cons_succ]
                      refine wpAnyH_take (i := 28) (oi := ?_) (v := ?_) ?_ ?_ ?_ ?_ ?_ ?_ ?_ ?_
                      rotate_left 2
                      · simp only [List.getElem?_toArray, List.getElem?_cons_succ, List.getElem?_cons_zero]; rfl
                      · kernel_rfl
                      · kernel_rfl
                      · kernel_rfl
                      · exact fun _ _ _ h => h
                      · refine Or.inl ⟨by rfl, ?_⟩
                        intro w' hSw
                        (try dsimp only at hSw)
                        go_simp
                        all_goals (with_reducible rfl)
                      · assumption
                      try simp only [Act.put, List.setIfInBounds_toArray, List.set_cons_zero, List.set_cons_succ]
                      refine wpAnyH_take (i := 29) (oi := ?_) (v := ?_) ?_ ?_ ?_ ?_ ?_ ?_ ?_ ?_
                      rotate_left 2
                      · simp only [List.getElem?_toArray, List.getElem?_cons_succ, List.getElem?_cons_zero]; rfl
                      · kernel_rfl
                      · kernel_rfl
                      · kernel_rfl
                      · exact fun _ _ _ h => h
                      · refine Or.inl ⟨by rfl, ?_⟩
                        intro w' hSw
                        (try dsimp only at hSw)
                        go_simp
                        all_goals (with_reducible rfl)
                      · assumption
                      try simp only [Act.put, List.setIfInBounds_toArray, List.set_cons_zero, List.set_cons_succ]
                      refine wpAnyH_take (i := 30) (oi := ?_) (v := ?_) ?_ ?_ ?_ ?_ ?_ ?_ ?_ ?_
                      rotate_left 2
                      · simp only [List.getElem?_toArray, List.getElem?_cons_succ, List.getElem?_cons_zero]; rfl
                      · kernel_rfl
                      · kernel_rfl
                      · kernel_rfl
                      · exact fun _ _ _ h => h
                      · refine Or.inl ⟨by rfl, ?_⟩
                        intro w' hSw
                        (try dsimp only at hSw)
                        go_simp
                        all_goals (with_reducible rfl)
                      · assumption
                      try simp only [Act.put, List.setIfInBounds_toArray, List.set_cons_zero, List.set_cons_succ]
                      refine wpAnyH_take (i := 31) (oi := ?_) (v := ?_) ?_ ?_ ?_ ?_ ?_ ?_ ?_ ?_
                      rotate_left 2
                      · simp only [List.getElem?_toArray, List.getElem?_cons_succ, List.getElem?_cons_zero]; rfl
                      · kernel_rfl
                      · kernel_rfl
                      · kernel_rfl
                      · exact fun _ _ _ h => h
                      · refine Or.inl ⟨by rfl, ?_⟩
                        intro w' hSw
                        (try dsimp only at hSw)
                        go_simp
                        all_goals (with_reducible rfl)
                      · assumption
                      try simp only [Act.put, List.setIfInBounds_toArray, List.set_cons_zero, List.set_cons_succ]
                      refine wpAnyH_take (i := 32) (oi := ?_) (v := ?_) ?_ ?_ ?_ ?_ ?_ ?_ ?_ ?_
                      rotate_left 2
                      · simp only [List.getElem?_toArray, List.getElem?_cons_succ, List.getElem?_cons_zero]; rfl
                      · kernel_rfl
                      · kernel_rfl
                      · kernel_rfl
                      · exact fun _ _ _ h => h
                      · refine Or.inl ⟨by rfl, ?_⟩
                        intro w' hSw
                        (try dsimp only at hSw)
                        go_simp
                        all_goals (with_reducible rfl)
                      · assumption
                      try simp only [Act.put, List.setIfInBounds_toArray, List.set_cons_zero, List.set_cons_succ]
                      refine wpAnyH_ready (rs := [33]) (by kernel_rfl) (by simp) ?_
                      refine AllReadyH.cons (o := ?_) ?_ ?_ ?_
                      rotate_left 1
                      · simp only [List.getElem?_toArray, List.getElem?_cons_succ, List.getElem?_cons_zero]; rfl
                      rotate_left 1
                      · exact AllReadyH.nil
                      intro K hK
                      go_simp
                      ((with_reducible refine (CI.out _ _ BD.out).mono ?_); rintro e wi ⟨rfl, bi⟩; have B1 := Lib.hid bi; clear bi)
                      refine hK.out _ _ (HSS.out _ (G.below_on BD.out B1.out)) (fun hHeld => ?_)
                      clear hK K
                      try simp only [Act.put, List.setIfInBounds_toArray, List.set_cons_zero, List.set_cons_succ]
                      refine wpAnyH_take (i := 34) (oi := ?_) (v := ?_) ?_ ?_ ?_ ?_ ?_ ?_ ?_ ?_
                      rotate_left 2
                      · simp only [List.getElem?_toArray, List.getElem?_cons_succ, List.getElem?_cons_zero]; rfl
                      · kernel_rfl
                      · kernel_rfl
                      · kernel_rfl
                      · exact fun _ _ _ h => h
                      · refine Or.inl ⟨by rfl, ?_⟩
                        intro w' hSw
                        (try dsimp only at hSw)
                        go_simp
                        all_goals (with_reducible rfl)
                      · assumption
                      try simp only [Act.put, List.setIfInBounds_toArray, List.set_cons_zero, List.set_cons_succ]
                      refine wpAnyH_take (i := 35) (oi := ?_) (v := ?_) ?_ ?_ ?_ ?_ ?_ ?_ ?_ ?_
                      rotate_left 2
                      · simp only [List.getElem?_toArray, List.getElem?_cons_succ, List.getElem?_cons_zero]; rfl
                      · kernel_rfl
                      · kernel_rfl
                      · kernel_rfl
                      · exact fun _ _ _ h => h
                      · refine Or.inl ⟨by rfl, ?_⟩
                        intro w' hSw
                        (try dsimp only at hSw)
                        go_simp
                        all_goals (with_reducible rfl)
                      · assumption
                      try simp only [Act.put, List.setIfInBounds_toArray, List.set_cons_zero, List.set_cons_succ]
                      refine wpAnyH_take (i := 36) (oi := ?_) (v := ?_) ?_ ?_ ?_ ?_ ?_ ?_ ?_ ?_
                      rotate_left 2
                      · simp only [List.getElem?_toArray, List.getElem?_cons_succ, List.getElem?_cons_zero]; rfl
                      · kernel_rfl
                      · kernel_rfl
                      · kernel_rfl
                      · exact fun _ _ _ h => h
                      · refine Or.inl ⟨by rfl, ?_⟩
                        intro w' hSw
                        (try dsimp only at hSw)
                        go_simp
                        all_goals (with_reducible rfl)
                      · assumption
                      try simp only [Act.put, List.setIfInBounds_toArray, List.set_cons_zero, List.set_cons_succ]
                      refine wpAnyH_take (i := 37) (oi := ?_) (v := ?_) ?_ ?_ ?_ ?_ ?_ ?_ ?_ ?_
                      rotate_left 2
                      · simp only [List.getElem?_toArray, List.getElem?_cons_succ, List.getElem?_cons_zero]; rfl
                      · kernel_rfl
                      · kernel_rfl
                      · kernel_rfl
                      · exact fun _ _ _ h => h
                      · refine Or.inl ⟨by rfl, ?_⟩
                        intro w' hSw
                        (try dsimp only at hSw)
                        go_simp
                        all_goals (with_reducible rfl)
                      · assumption
                      try simp only [Act.put, List.setIfInBounds_toArray, List.set_cons_zero, List.set_cons_succ]
                      refine wpAnyH_take (i := 38) (oi := ?_) (v := ?_) ?_ ?_ ?_ ?_ ?_ ?_ ?_ ?_
                      rotate_left 2
                      · simp only [List.getElem?_toArray, List.getElem?_cons_succ, List.getElem?_cons_zero]; rfl
                      · kernel_rfl
                      · kernel_rfl
                      · kernel_rfl
                      · exact fun _ _ _ h => h
                      · refine Or.inl ⟨by rfl, ?_⟩
                        intro w' hSw
                        (try dsimp only at hSw)
                        go_simp
                        all_goals (with_reducible rfl)
                      · assumption
                      try simp only [Act.put, List.setIfInBounds_toArray, List.set_cons_zero, List.set_cons_succ]
                      refine wpAnyH_take (i := 39) (oi := ?_) (v := ?_) ?_ ?_ ?_ ?_ ?_ ?_ ?_ ?_
                      rotate_left 2
                      · simp only [List.getElem?_toArray, List.getElem?_cons_succ, List.getElem?_cons_zero]; rfl
                      · kernel_rfl
                      · kernel_rfl
                      · kernel_rfl
                      · exact fun _ _ _ h => h
                      · refine Or.inl ⟨by rfl, ?_⟩
                        intro w' hSw
                        (try dsimp only at hSw)
                        go_simp
                        all_goals (with_reducible rfl)
                      · assumption
                      try simp only [Act.put, List.setIfInBounds_toArray, List.set_cons_zero, List.set_cons_succ]
                      refine wpAnyH_take (i := 40) (oi := ?_) (v := ?_) ?_ ?_ ?_ ?_ ?_ ?_ ?_ ?_
                      rotate_left 2
                      · simp only [List.getElem?_toArray, List.getElem?_cons_succ, List.getElem?_cons_zero]; rfl
                      · kernel_rfl
                      · kernel_rfl
                      · kernel_rfl
                      · exact fun _ _ _ h => h
                      · refine Or.inl ⟨by rfl, ?_⟩
                        intro w' hSw
                        (try dsimp only at hSw)
                        go_simp
                        all_goals (with_reducible rfl)
                      · assumption
                      try simp only [Act.put, List.setIfInBounds_toArray, List.set_cons_zero, List.set_cons_succ]
                      refine wpAnyH_take (i := 41) (oi := ?_) (v := ?_) ?_ ?_ ?_ ?_ ?_ ?_ ?_ ?_
                      rotate_left 2
                      · simp only [List.getElem?_toArray, List.getElem?_cons_succ, List.getElem?_cons_zero]; rfl
                      · kernel_rfl
                      · kernel_rfl
                      · kernel_rfl
                      · exact fun _ _ _ h => h
                      · refine Or.inl ⟨by rfl, ?_⟩
                        intro w' hSw
                        (try dsimp only at hSw)
                        go_simp
                        all_goals (with_reducible rfl)
                      · assumption
                      try simp only [Act.put, List.setIfInBounds_toArray, List.set_cons_zero, List.set_cons_succ]
                      refine wpAnyH_take (i := 43) (oi := ?_) (v := ?_) ?_ ?_ ?_ ?_ ?_ ?_ ?_ ?_
                      rotate_left 2
                      · simp only [List.getElem?_toArray, List.getElem?_cons_succ, List.getElem?_cons_zero]; rfl
                      · kernel_rfl
                      · kernel_rfl
                      · kernel_rfl
                      · exact fun _ _ _ h => h
                      · refine Or.inl ⟨by rfl, ?_⟩
                        intro w' hSw
                        (try dsimp only at hSw)
                        go_simp
                        all_goals (with_reducible rfl)
                      · assumption
                      try simp only [Act.put, List.setIfInBounds_toArray, List.set_cons_zero, List.set_cons_succ]
                      refine wpAnyH_ready (rs := [42]) (by kernel_rfl) (by simp) ?_
                      refine AllReadyH.cons (o := ?_) ?_ ?_ ?_
                      rotate_left 1
                      · simp only [List.getElem?_toArray, List.getElem?_cons_succ, List.getElem?_cons_zero]; rfl
                      rotate_left 1
                      · exact AllReadyH.nil
                      intro K hK
                      go_simp
                      ((with_reducible refine (CI.out s _ (G.below_on BD.out B1.out)).mono ?_); rintro e wj ⟨rfl, bi⟩; have B2' := Lib.hid bi; clear bi)
                      refine hK.out _ _ (HSS.out _ (G.below_on (G.below_on BD.out B1.out) B2'.out)) (fun hHeld => ?_)
                      clear hK K
                      try simp only [Act.put, List.setIfInBounds_toArray, List.set_cons_zero, List.set_cons_succ]
                      refine wpAnyH_take (i := 44) (oi := ?_) (v := ?_) ?_ ?_ ?_ ?_ ?_ ?_ ?_ ?_
                      rotate_left 2
                      · simp only [List.getElem?_toArray, List.getElem?_cons_succ, List.getElem?_cons_zero]; rfl
                      · kernel_rfl
                      · kernel_rfl
                      · kernel_rfl
                      · exact fun _ _ _ h => h
                      · refine Or.inl ⟨by rfl, ?_⟩
                        intro w' hSw
                        (try dsimp only at hSw)
                        go_simp
                        all_goals (with_reducible rfl)
                      · assumption
                      try simp only [Act.put, List.setIfInBounds_toArray, List.set_cons_zero, List.set_cons_succ]
                      refine wpAnyH_take (i := 45) (oi := ?_) (v := undef) ?_ ?_ ?_ ?_ ?_ ?_ ?_ ?_
                      rotate_left 1
                      · simp only [List.getElem?_toArray, List.getElem?_cons_succ, List.getElem?_cons_zero]; rfl
                      · kernel_rfl
                      · kernel_rfl
                      · kernel_rfl
                      · exact fun _ _ _ h => h
                      · exact Or.inr ⟨by kernel_rfl, rfl⟩
                      · assumption
                      try simp only [Act.put, List.setIfInBounds_toArray, List.set_cons_zero, List.set_cons_succ]
                      refine wpAnyH_take (i := 46) (oi := ?_) (v := undef) ?_ ?_ ?_ ?_ ?_ ?_ ?_ ?_
                      rotate_left 1
                      · simp only [List.getElem?_toArray, List.getElem?_cons_succ, List.getElem?_cons_zero]; rfl
                      · kernel_rfl
                      · kernel_rfl
                      · kernel_rfl
                      · exact fun _ _ _ h => h
                      · exact Or.inr ⟨by kernel_rfl, rfl⟩
                      · assumption
                      try simp only [Act.put, List.setIfInBounds_toArray, List.set_cons_zero, List.set_cons_succ]
                      refine wpAnyH_take (i := 47) (oi := ?_) (v := undef) ?_ ?_ ?_ ?_ ?_ ?_ ?_ ?_
                      rotate_left 1
                      · simp only [List.getElem?_toArray, List.getElem?_cons_succ, List.getElem?_cons_zero]; rfl
                      · kernel_rfl
                      · kernel_rfl
                      · kernel_rfl
                      · exact fun _ _ _ h => h
                      · exact Or.inr ⟨by kernel_rfl, rfl⟩
                      · assumption
                      try simp only [Act.put, List.setIfInBounds_toArray, List.set_cons_zero, List.set_cons_succ]
                      refine wpAnyH_take (i := 48) (oi := ?_) (v := undef) ?_ ?_ ?_ ?_ ?_ ?_ ?_ ?_
                      rotate_left 1
                      · simp only [List.getElem?_toArray, List.getElem?_cons_succ, List.getElem?_cons_zero]; rfl
                      · kernel_rfl
                      · kernel_rfl
                      · kernel_rfl
                      · exact fun _ _ _ h => h
                      · exact Or.inr ⟨by kernel_rfl, rfl⟩
                      · assumption
                      try simp only [Act.put, List.setIfInBounds_toArray, List.set_cons_zero, List.set_cons_succ]
                      refine wpAnyH_take (i := 49) (oi := ?_) (v := undef) ?_ ?_ ?_ ?_ ?_ ?_ ?_ ?_
                      rotate_left 1
                      · simp only [List.getElem?_toArray, List.getElem?_cons_succ, List.getElem?_cons_zero]; rfl
                      · kernel_rfl
                      · kernel_rfl
                      · kernel_rfl
                      · exact fun _ _ _ h => h
                      · exact Or.inr ⟨by kernel_rfl, rfl⟩
                      · assumption
                      try simp only [Act.put, List.setIfInBounds_toArray, List.set_cons_zero, List.set_cons_succ]
                      refine wpAnyH_take (i := 50) (oi := ?_) (v := undef) ?_ ?_ ?_ ?_ ?_ ?_ ?_ ?_
                      rotate_left 1
                      · simp only [List.getElem?_toArray, List.getElem?_cons_succ, List.getElem?_cons_zero]; rfl
                      · kernel_rfl
                      · kernel_rfl
                      · kernel_rfl
                      · exact fun _ _ _ h => h
                      · exact Or.inr ⟨by kernel_rfl, rfl⟩
                      · assumption
                      try simp only [Act.put, List.setIfInBounds_toArray, List.set_cons_zero, List.set_cons_succ]
                      refine wpAnyH_take (i := 51) (oi := ?_) (v := undef) ?_ ?_ ?_ ?_ ?_ ?_ ?_ ?_
                      rotate_left 1
                      · simp only [List.getElem?_toArray, List.getElem?_cons_succ, List.getElem?_cons_zero]; rfl
                      · kernel_rfl
                      · kernel_rfl
                      · kernel_rfl
                      · exact fun _ _ _ h => h
                      · exact Or.inr ⟨by kernel_rfl, rfl⟩
                      · assumption
                      try simp only [Act.put, List.setIfInBounds_toArray, List.set_cons_zero, List.set_cons_succ]
                      refine wpAnyH_take (i := 52) (oi := ?_) (v := ?_) ?_ ?_ ?_ ?_ ?_ ?_ ?_ ?_
                      rotate_left 2
                      · simp only [List.getElem?_toArray, List.getElem?_cons_succ, List.getElem?_cons_zero]; rfl
                      · kernel_rfl
                      · kernel_rfl
                      · kernel_rfl
                      · exact fun _ _ _ h => h
                      · refine Or.inl ⟨by rfl, ?_⟩
                        intro w' hSw
                        (try dsimp only at hSw)
                        go_simp
                        all_goals (with_reducible rfl)
                      · assumption
                      try simp only [Act.put, List.setIfInBounds_toArray, List.set_cons_zero, List.set_cons_succ]
                      refine wpAnyH_take (i := 53) (oi := ?_) (v := ?_) ?_ ?_ ?_ ?_ ?_ ?_ ?_ ?_
                      rotate_left 2
                      · simp only [List.getElem?_toArray, List.getElem?_cons_succ, List.getElem?_cons_zero]; rfl
                      · kernel_rfl
                      · kernel_rfl
                      · kernel_rfl
                      · exact fun _ _ _ h => h
                      · refine Or.inl ⟨by rfl, ?_⟩
                        intro w' hSw
                        (try dsimp only at hSw)
                        go_simp
                        all_goals (with_reducible rfl)
                      · assumption
                      try simp only [Act.put, List.setIfInBounds_toArray, List.set_cons_zero, List.set_cons_succ]
                      refine wpAnyH_take (i := 54) (oi := ?_) (v := ?_) ?_ ?_ ?_ ?_ ?_ ?_ ?_ ?_
                      rotate_left 2
                      · simp only [List.getElem?_toArray, List.getElem?_cons_succ, List.getElem?_cons_zero]; rfl
                      · kernel_rfl
                      · kernel_rfl
                      · kernel_rfl
                      · exact fun _ _ _ h => h
                      · refine Or.inl ⟨by rfl, ?_⟩
                        intro w' hSw
                        (try dsimp only at hSw)
                        go_simp
                        all_goals (with_reducible rfl)
                      · assumption
                      try simp only [Act.put, List.setIfInBounds_toArray, List.set_cons_zero, List.set_cons_succ]
                      refine wpAnyH_done (by kernel_rfl) ?_ _
                      have BJ := Lib.hid (show Below wc.heap.size wc wj from G.below_on (G.below_on BD.out B1.out) B2'.out)
                      clear hHeld
                      go_wp2
                      go_roundg (i + 2 - (d + 1))
                      case measure => have := HK3.out; have := HZ.out; omega
                      case rel => exact ⟨d + 1, by have := HZ.out; omega, by have := HZ.out; omega, congrArg (Value.int .i64) (by have := HZ.out; omega), BQ.out.trans ((BK.out.trans (BJ.out.mono BK.out.size)).mono BQ.out.size)⟩
              · as_aux_lemma =>
                  have hund : undef = Value.tuple #[] := rfl
                  have CL := Lib.hid (len_any wq KSq.out.ki)
                  have CU := Lib.hid (fun W (hb : Below wq.heap.size wq W) => used_any W (KSq.out.ki.keep hb))
                  have hl9 := KSq.out.ki.pl.1.le
                  obtain ⟨A1, c1, rfl, hc1, hc2, _⟩ := G.own_at KSq.out.fr
                  obtain ⟨L, hL⟩ : ∃ L, L = fl'.length := ⟨_, rfl⟩
                  rw [← hL] at CU hl9 KSq ⊢
                  have e7 : ((i - L : Nat) : Int) = (i : Int) - (L : Int) := by omega
                  have BZ := Lib.hid (B8.out.trans (BQ.out.mono B8.out.size))
                  clear hL hc1 hc2
                  rw [e7] at CU
                  have t7 : (L : Int) ≤ (i : Int) := by omega
                  clear e7 hl9
                  go_wp2_with (first
                    | (go_at_call 13; ((with_reducible refine CL.out.mono ?_); rintro e wl ⟨rfl, rfl⟩))
                    | (go_at_call 14; ((with_reducible refine (CU.out _ (Below.refl _ _)).mono ?_); rintro e wu ⟨rfl, bu⟩; have BU := Lib.hid bu; clear bu)))
                  go_roundg (m - (j + 1))
                  case measure => have := HKK2.out; omega
                  case rel => exact ⟨j + 1, fl', K', by omega, by omega, by go_num, KSq.out.below BU.out, G.below_on BZ.out BU.out⟩
        · have hje : j = m := by omega
          subst hje
          clear hbw
          go_wp2
          go_ret
          exact ⟨rfl, BW.out⟩
end Go.Proofs.Ytaicfgjipekooaa
