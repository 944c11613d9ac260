/- The law IndexRuns of layer 5 (index), walked. -/
import Derived.Test.YtebcgiblgkiceaaIxA
import Derived.Test.YtebcgiblgkiceaaIxK
import Derived.Test.YtebcgiblgkiceaaBits
import Derived.Deep.CutBlock
namespace Go.Proofs.Ytebcgiblgkiceaa
set_option linter.unusedSimpArgs false
set_option linter.unusedVariables false
open Go.ChangeShapes Go.WideShapes Go.ChangeAt Go.RowKit
/-- what an index, and a map beside it, are through the calls. -/
structure IxRun (W w : World) (N : IxN) (n mb cb : Nat) (σ : KSt) (t : TypeId) (C : Array Value) : Prop where
  ix : IdxAt w N σ
  mp : Mp.MapS Try.prog 9 w mb (n - σ.fl.length) (KM n σ.K)
  cb : Blk w cb t C
  bl : Below W.heap.size W w
structure IxR0 (W w : World) (N : IxN) (mb cb cm : Nat) (σ : KSt) (M : ByteArray → Option Value) (t : TypeId) (C : Array Value) : Prop where
  ix : IdxAt w N σ
  mp : Mp.MapS Try.prog 9 w mb cm M
  cb : Blk w cb t C
  bl : Below W.heap.size W w
set_option maxHeartbeats 16000000 in
set_option maxRecDepth 100000 in
theorem ixruns_law (w : World) (a : Int) (d1 d2 d3 : Nat) (A : Option Addr) (m c : Nat) (L : List (Int × ByteArray)) (ha : -9223372036854775808 ≤ a ∧ a ≤ 9223372036854775807) (hd : d1 < 18446744073709551616 ∧ d2 < 18446744073709551616 ∧ d3 < 18446744073709551616) (hr : RdL w A m c 2 encIS L) (hok : ∀ a ∈ L, okIS a) :
    Calls Try.prog 3 #[.int .i64 a, .agg #[.int .u64 d1, .int .u64 d2, .int .u64 d3], .slice A m c] w fun e w' => e = .returned (.bool true) ∧ Below w.heap.size w w' := by
  have hmx := hr.max
  unfold maxLen at hmx
  have hcp := hr.cap
  obtain ⟨n, hn⟩ : ∃ k : Nat, a % 16 = (k : Int) := ⟨(a % 16).toNat, by omega⟩
  have e1 : bits .and .i64 a 15 = (n : Int) := by rw [i64_mask4, hn]
  have hnb : n ≤ 15 := by omega
  have CR := Lib.hid (fun w => row_any d1 d2 d3 hd.1 hd.2.1 hd.2.2 w)
  have DL := Lib.hid (d_lt d1 d2 d3)
  obtain ⟨X, hX⟩ : ∃ X, X = dX d1 d2 d3 := ⟨_, rfl⟩
  obtain ⟨Y, hY⟩ : ∃ X, X = dA d1 d2 d3 := ⟨_, rfl⟩
  obtain ⟨Z, hZ⟩ : ∃ X, X = dB d1 d2 d3 := ⟨_, rfl⟩
  rw [← hX, ← hY, ← hZ] at CR DL
  have HR := Lib.hid hr
  have HO := Lib.hid hok
  clear hr hok hd hX hY hZ hn ha
  by_cases hm : (200 : Int) < (m : Int)
  · go_enter Try.func3, Try.ntmps3
    go_wp2_with (go_at_call 7; refine (ixfit_any _).mono ?_; rintro e w1 ⟨rfl, bb⟩; have B1 := Lib.hid (below_in ((Below.refl _ _).alloc (Nat.le_refl _) _) bb); clear bb)
    go_ret
    exact ⟨rfl, B1.out⟩
  have hm2 : (m : Int) ≤ 200 := by omega
  have hmm := @run_makeMap Try.prog
  clear hm
  go_enter Try.func3, Try.ntmps3
  go_upto_region 1 with (fail)
  obtain ⟨w0, hw0, k0, l0, s0⟩ := box_new w #[.int .u64 (d1 : Int), .int .u64 (d2 : Int), .int .u64 (d3 : Int)] 23
  rw [hw0]
  obtain ⟨db, hdb⟩ : ∃ db, db = w.heap.size := ⟨_, rfl⟩
  rw [← hdb] at k0 ⊢
  have K0 := Lib.hid k0
  have L0 := Lib.hid l0
  clear hw0 k0 l0 s0 hdb
  go_upto_region 7 with (first
    | (go_at_call 7; refine (ixfit_any _).mono ?_; rintro e w1 ⟨rfl, bb⟩; have K1 := Lib.hid (K0.out.keep bb); have L1 := Lib.hid (below_in L0.out bb); clear bb)
    | (go_at_call 8; ((with_reducible refine (new_yes n (by omega) _).mono ?_); rintro e w2 ⟨b, gb, gs, gf, rfl, hk, bk, hb⟩; have KK := Lib.hid hk; have K2 := Lib.hid (K1.out.keep bk); have L2 := Lib.hid (below_in L1.out bk); have HB := Lib.hid hb; have Z2 := Lib.hid bk.size; have k2 := (K1.out.keep bk).rd; clear hk bk hb)))
  go_upto_region 8 with (first
    | (go_at_call 10; ((with_reducible refine (CR.out _).mono ?_); rintro e w3 ⟨rfl, bk⟩; have KK3 := Lib.hid (KK.out.keep bk); have L3 := Lib.hid (below_in L2.out bk); have Z3 := Lib.hid bk.size; clear bk))
    | (go_at_call 9; ((with_reducible refine (ixnew_st X Y Z DL.out.1 DL.out.2.1 DL.out.2.2 b gb gs gf n _ KK3.out).mono ?_); rintro e w4 ⟨x, g, rfl, hi, bk, hb⟩; have I1 := Lib.hid hi; have HX := Lib.hid hb; have L4 := Lib.hid (below_in L3.out bk); clear hi bk hb)))
  obtain ⟨N, hN⟩ : ∃ N : IxN, N = ⟨x, b, X, Y, Z, g, gb, gs, gf, n⟩ := ⟨_, rfl⟩
  have I0 := I1.out
  rw [← hN] at I0
  have hl1 := I0.lt
  have y1 := HB.out
  have y2 := HX.out
  have z1 := L1.out.size
  have z2 := Z2.out
  have z3 := Z3.out
  have HF := Lib.hid (show ∀ k, (N.F k ∨ k = N.x) → w.heap.size ≤ k from fun k hk => by
    rw [hN] at hk
    rcases hk with (hk | hk | hk | hk | hk) | hk <;> simp only at hk <;> omega)
  have e3 : x = N.x := by rw [hN]
  have e4 : b = N.b := by rw [hN]
  have NN := Lib.hid (show N.n = n by rw [hN])
  have I2 := Lib.hid (show IdxAt w4 N (kNew n) from I0)
  have HLT := Lib.hid hl1
  clear k2 hN I0 hl1 y1 y2 z1 z2 z3
  subst e3 e4
  clear KK KK3 I1 HX HB Z2 Z3 K0 K1 K2 L0 L1 L2 L3 CR DL
  go_upto_region 9 with (fail)
  have hm0 : Mp.MapS Try.prog 9 (w4.alloc (.map #[] 0)) w4.heap.size (n - (kNew n).fl.length) (KM n (kNew n).K) := by
    have := Mp.MapS.new (P := Try.prog) (k := 9) w4
    rw [← KM_new n] at this
    rwa [show n - (kNew n).fl.length = 0 by simp [kNew]]
  obtain ⟨mb, hmb⟩ : ∃ mb, mb = w4.heap.size := ⟨_, rfl⟩
  rw [← hmb] at hm0 ⊢
  have bl5 : Below w4.heap.size w4 (w4.alloc (.map #[] 0)) := (Below.refl _ _).alloc (Nat.le_refl _) _
  have I5 := Lib.hid (I2.out.keep bl5)
  have M5 := Lib.hid hm0
  have L5 := Lib.hid (below_in L4.out bl5)
  have HMB := Lib.hid (show (∀ k, (N.F k ∨ k = N.x) → k < mb) ∧ w.heap.size ≤ mb from ⟨fun k hk => by rw [hmb]; exact HLT.out k hk, by rw [hmb]; exact L4.out.size⟩)
  generalize w4.alloc (.map #[] 0) = w5 at I5 M5 L5 ⊢
  have HLEN := Lib.hid HR.out.len
  clear hm0 hmb bl5 hmm
  go_wp2
  go_loopg [35] m (fun k si wr => ∃ (j : Nat) (σ : KSt), si = .int .i64 (j : Int) ∧ j ≤ m ∧ Hid (k = m - j) ∧ Hid (IdxAt wr N σ) ∧ Hid (Mp.MapS Try.prog 9 wr mb (n - σ.fl.length) (KM n σ.K)) ∧ Hid (Below w.heap.size w wr))
  case atStart => exact ⟨0, kNew n, rfl, by omega, Lib.hid rfl, I5, M5, L5⟩
  case round =>
    obtain ⟨j, σ, rfl, hj, HK, IJ, MJ, BJ⟩ := hrel
    by_cases hjm : j < m
    · have HJ := Lib.hid hjm
      obtain ⟨rb, off, rfl, hlt, hc⟩ := HR.out.at_ (by omega)
      have hjl : j < L.length := by rw [HLEN.out]; exact hjm
      obtain ⟨⟨kd, ky⟩, ht⟩ : ∃ t, L[j]? = some t := ⟨_, List.getElem?_eq_getElem hjl⟩
      have kr0 : wr.cell? ⟨rb, off + j * 2, none⟩ = some (.int .i64 kd) := by rw [BJ.out.cell (p := ⟨rb, off + j * 2, none⟩) hlt]; exact hc j _ ht 0 (by omega)
      have kr1 : wr.cell? ⟨rb, off + j * 2 + 1, none⟩ = some (.string ky) := by rw [BJ.out.cell (p := ⟨rb, off + j * 2 + 1, none⟩) hlt]; exact hc j _ ht 1 (by omega)
      have hoa := HO.out _ (List.mem_of_getElem? ht)
      have HKY := Lib.hid (show ky.size ≤ maxLen from hoa.2)
      have hky : (ky.size : Int) ≤ 9223372036854775807 := by have := HKY.out; unfold maxLen at this; omega
      have t3 : (j : Int) < (m : Int) := by omega
      clear hc ht hjl hlt hjm hoa
      go_upto_region 12 with (fail)
      obtain ⟨w8, hw8, k8, l8, s8⟩ := box_new wr #[.int .i64 kd, .string ky] 35
      rw [hw8]
      obtain ⟨cb, hcb⟩ : ∃ cb, cb = wr.heap.size := ⟨_, rfl⟩
      rw [← hcb] at k8 ⊢
      have R8 := Lib.hid (show IxRun w w8 N n mb cb σ 35 #[.int .i64 kd, .string ky] from ⟨IJ.out.keep l8, MJ.out.keep l8, k8, below_in BJ.out l8⟩)
      have HCB := Lib.hid (show (∀ k, N.F k ∨ k = N.x → k < cb) ∧ mb < cb from ⟨fun k hk => by rw [hcb]; exact IJ.out.lt k hk, by rw [hcb]; exact MJ.out.lt⟩)
      have k8 := k8.rd
      clear hw8 l8 s8 hcb kr0 kr1 t3
      by_cases h200 : (200 : Int) < (ky.size : Int)
      · go_wp2
        go_ret
        exact ⟨rfl, R8.out.bl⟩
      · obtain ⟨r3, hr3, hb3⟩ := mod3 kd
        have hz : ∃ z : Int, (r3 + 3) % 3 = z ∧ (z = 0 ∨ z = 1 ∨ z = 2) := ⟨_, rfl, by omega⟩
        obtain ⟨z, hz, hz3⟩ := hz
        have hlk := R8.out.mp.look_ok Try.underlying9 Try.underlying33 (z := .int .i64 0) (by kernel_rfl) HKY.out
        have hM : ∃ o : Option Nat, posN n σ.K ky = o ∧ KM n σ.K ky = o.map (fun i : Nat => Value.int .i64 (i : Int)) := ⟨posN n σ.K ky, rfl, by unfold KM; rfl⟩
        obtain ⟨o, hpo, hko⟩ := hM
        rw [hko] at hlk
        have HPO := Lib.hid hpo
        have HKO := Lib.hid hko
        clear hpo hko
        cases o with
        | none =>
          have hlk : Sem.run Try.prog (Instr.lookup 33 (Value.map (some mb)) (Value.string ky) true) w8 = Result.ok (Value.tuple #[.int .i64 0, .bool false]) w8 := hlk
          have HKO2 := Lib.hid (show (fun x => if x = ky then none else KM n σ.K x) = KM n σ.K from by
            funext x
            by_cases e : x = ky
            · rw [if_pos e, e]; exact HKO.out.symm
            · rw [if_neg e])
          go_upto_block 2 with (fail)
          go_cut [] from 43 to 113 (fun wx => ∃ σ' : KSt, IxRun w wx N n mb cb σ' 35 #[.int .i64 kd, .string ky])
          case first =>
            obtain ⟨cm, hcm⟩ : ∃ cm, cm = n - σ.fl.length := ⟨_, rfl⟩
            have hfl0 := R8.out.ix.uni.2.2.2.le
            rw [NN.out] at hfl0
            have R8 : IxR0 w w8 N mb cb cm σ (KM n σ.K) 35 #[.int .i64 kd, .string ky] := ⟨R8.out.ix, by rw [hcm]; exact R8.out.mp, R8.out.cb, R8.out.bl⟩
            have R8 := Lib.hid R8
            have HCM := Lib.hid hcm.symm
            rcases hz3 with rfl | rfl | rfl
            · have CP := Lib.hid (ixput_any ky HKY.out w8 R8.out.ix)
              rw [NN.out] at CP
              rcases KSt.put_cases n σ ky with ⟨i, hp, he⟩ | ⟨hp, hf, he⟩ | ⟨hp, h64, fl, i, hfl, he⟩
              · exact absurd (hp.symm.trans HPO.out) (by simp)
              · rw [he] at CP
                by_cases hfe : σ.fl = []
                · have u1 : decide ((cm : Int) < (n : Int)) = false := by rw [decide_eq_false_iff_not]; rw [hfe] at hcm; simp at hcm; omega
                  have u1' : decide (cm < n) = false := by rw [decide_eq_false_iff_not]; rw [hfe] at hcm; simp at hcm; omega
                  clear hp he hf hcm hfl0 hfe
                  go_wp2_with (go_at_call 11; refine (show Calls Try.prog 11 #[.pointer (some ⟨N.x, 0, none⟩), .string ky] w8 (fun e w' => e = .returned (.int .i64 (-1)) ∧ IdxAt w' N σ ∧ Fr N.F w8 w') from CP.out).mono ?_; rintro e wa ⟨rfl, ia, fa⟩; have IA := Lib.hid ia; have FA := Lib.hid fa; have MA := Lib.hid (R8.out.mp.fr fa (fun hF => by have := HMB.out.1 mb (Or.inl hF); omega)); have CA := Lib.hid (R8.out.cb.fr fa (fun hF => by have := HCB.out.1 cb (Or.inl hF); omega)); have BA := Lib.hid (R8.out.bl.trans (fa.below R8.out.bl.size (fun k hk => HF.out k (Or.inl hk)))); have k9 := CA.out.rd; have hln := MA.out.len Try.underlying33 3; clear ia fa)
                  go_meet
                  case rel => exact ⟨σ, IA.out, by rw [HCM.out]; exact MA.out, CA.out, BA.out⟩
                · have hpos := List.length_pos_iff.2 hfe
                  have h64 : 64 < ky.size := by rcases hf with h | h; exact h; exact absurd h hfe
                  have u1 : decide ((cm : Int) < (n : Int)) = true := by rw [decide_eq_true_eq]; omega
                  have u1' : decide (cm < n) = true := by rw [decide_eq_true_eq]; omega
                  have u2 : decide ((ky.size : Int) ≤ 64) = false := by rw [decide_eq_false_iff_not]; omega
                  have u2' : decide (ky.size ≤ 64) = false := by rw [decide_eq_false_iff_not]; omega
                  clear hp he hf hcm hfl0 hfe hpos h64
                  go_wp2_with (go_at_call 11; refine (show Calls Try.prog 11 #[.pointer (some ⟨N.x, 0, none⟩), .string ky] w8 (fun e w' => e = .returned (.int .i64 (-1)) ∧ IdxAt w' N σ ∧ Fr N.F w8 w') from CP.out).mono ?_; rintro e wa ⟨rfl, ia, fa⟩; have IA := Lib.hid ia; have FA := Lib.hid fa; have MA := Lib.hid (R8.out.mp.fr fa (fun hF => by have := HMB.out.1 mb (Or.inl hF); omega)); have CA := Lib.hid (R8.out.cb.fr fa (fun hF => by have := HCB.out.1 cb (Or.inl hF); omega)); have BA := Lib.hid (R8.out.bl.trans (fa.below R8.out.bl.size (fun k hk => HF.out k (Or.inl hk)))); have k9 := CA.out.rd; have hln := MA.out.len Try.underlying33 3; clear ia fa)
                  go_meet
                  case rel => exact ⟨σ, IA.out, by rw [HCM.out]; exact MA.out, CA.out, BA.out⟩
              · rw [he] at CP
                have hfr := R8.out.ix.uni.2.2.2.free (i := i) (by rw [hfl]; simp)
                rw [NN.out] at hfr
                have hno := R8.out.ix.no (by rw [NN.out]; exact hp)
                have HKM := Lib.hid (show KM n (fun q => if q = i then some ky else σ.K q) = fun x => if x = ky then some (.int .i64 (i : Int)) else KM n σ.K x from KM_upd hfr.1 hfr.2 hno)
                have hll : σ.fl.length = fl.length + 1 := by rw [hfl]; simp
                have HCN := Lib.hid (show cm + 1 = n - fl.length by omega)
                have u1 : decide ((cm : Int) < (n : Int)) = true := by rw [decide_eq_true_eq]; omega
                have u1' : decide (cm < n) = true := by rw [decide_eq_true_eq]; omega
                have u2 : decide ((ky.size : Int) ≤ 64) = true := by rw [decide_eq_true_eq]; omega
                have u2' : decide (ky.size ≤ 64) = true := by rw [decide_eq_true_eq]; omega
                have HIN := Lib.hid hfr.1
                have HCB2 := Lib.hid (show cm ≤ 15 by omega)
                clear hp he hcm hfl0 h64 hfr hno hll hfl
                go_upto_region 27 with (first
                  | (go_at_call 11; refine (show Calls Try.prog 11 #[.pointer (some ⟨N.x, 0, none⟩), .string ky] w8 (fun e w' => e = .returned (.int .i64 (i : Int)) ∧ IdxAt w' N ⟨fl, fun q => if q = i then some ky else σ.K q⟩ ∧ Fr N.F w8 w') from CP.out).mono ?_; rintro e wa ⟨rfl, ia, fa⟩; have IA := Lib.hid ia; have FA := Lib.hid fa; have MA := Lib.hid (R8.out.mp.fr fa (fun hF => by have := HMB.out.1 mb (Or.inl hF); omega)); have CA := Lib.hid (R8.out.cb.fr fa (fun hF => by have := HCB.out.1 cb (Or.inl hF); omega)); have BA := Lib.hid (R8.out.bl.trans (fa.below R8.out.bl.size (fun k hk => HF.out k (Or.inl hk)))); have k9 := CA.out.rd; have hln := MA.out.len Try.underlying33 3; clear ia fa)
                  | (go_at_call 12; refine (show Calls Try.prog 12 #[.pointer (some ⟨N.b, 0, none⟩), .int .i64 (i : Int), .string ky] wa (fun e w' => e = .returned (.bool true) ∧ Below wa.heap.size wa w') from by
                      have := is_any (i : Int) ky wa IA.out.ks
                      rwa [NN.out, isB_same (by simp) HIN.out] at this).mono ?_; rintro e wd ⟨rfl, bd⟩; have IA2 := Lib.hid (IA.out.keep bd); have MA2 := Lib.hid (MA.out.keep bd); have CA2 := Lib.hid (CA.out.keep bd); have BA2 := Lib.hid (below_in BA.out bd); have k10 := CA2.out.rd; clear bd))
                obtain ⟨wb, hst, mb2, fb⟩ := MA2.out.store Try.underlying9 Try.underlying33 (by have := HCB2.out; unfold maxLen; omega) HKY.out (.int .i64 (i : Int))
                rw [HKO.out, ← HKM.out] at mb2
                have MB := Lib.hid mb2
                have CB := Lib.hid (CA2.out.fr fb (fun e => by have := HCB.out.2; omega))
                have IB := Lib.hid (IA2.out.fr fb (fun k hk e => by have := HMB.out.1 k hk; omega))
                have BB := Lib.hid (BA2.out.trans (fb.below BA2.out.size (fun k hk => by have := HMB.out.2; omega)))
                clear mb2 fb hln
                go_wp2
                clear hst
                go_meet
                case rel => exact ⟨⟨fl, fun q => if q = i then some ky else σ.K q⟩, IB.out, by rw [← HCN.out]; exact MB.out, CB.out, BB.out⟩
            · have CP := Lib.hid (ixremove_any ky HKY.out w8 R8.out.ix)
              rw [NN.out] at CP
              have he : σ.del n ky = (σ, none) := by rcases KSt.del_cases n σ ky with ⟨i, hp, _⟩ | ⟨_, he⟩; exact absurd (hp.symm.trans HPO.out) (by simp); exact he
              rw [he] at CP
              clear he hcm hfl0
              go_upto_region 31 with (go_at_call 13; refine (show Calls Try.prog 13 #[.pointer (some ⟨N.x, 0, none⟩), .string ky] w8 (fun e w' => e = .returned (.int .i64 (-1)) ∧ IdxAt w' N σ ∧ Fr N.F w8 w') from CP.out).mono ?_; rintro e wa ⟨rfl, ia, fa⟩; have IA := Lib.hid ia; have FA := Lib.hid fa; have MA := Lib.hid (R8.out.mp.fr fa (fun hF => by have := HMB.out.1 mb (Or.inl hF); omega)); have CA := Lib.hid (R8.out.cb.fr fa (fun hF => by have := HCB.out.1 cb (Or.inl hF); omega)); have BA := Lib.hid (R8.out.bl.trans (fa.below R8.out.bl.size (fun k hk => HF.out k (Or.inl hk)))); have k9 := CA.out.rd; have hln := MA.out.len Try.underlying33 3; clear ia fa)
              obtain ⟨wb, hdr, mb2, fb⟩ := MA.out.drop Try.underlying9 Try.underlying33 HKY.out 0
              rw [HKO.out] at mb2
              have MB := Lib.hid mb2
              have CB := Lib.hid (CA.out.fr fb (fun e => by have := HCB.out.2; omega))
              have IB := Lib.hid (IA.out.fr fb (fun k hk e => by have := HMB.out.1 k hk; omega))
              have BB := Lib.hid (BA.out.trans (fb.below BA.out.size (fun k hk => by have := HMB.out.2; omega)))
              clear mb2 fb hln
              go_wp2
              clear hdr
              go_meet
              case rel => exact ⟨σ, IB.out, by rw [HCM.out]; have := MB.out; rw [HKO2.out] at this; exact this, CB.out, BB.out⟩
            · have CP := Lib.hid (ixfind_fr ky HKY.out w8 R8.out.ix)
              rw [NN.out, HPO.out] at CP
              clear hcm hfl0
              go_wp2_with (go_at_call 14; refine (show Calls Try.prog 14 #[.pointer (some ⟨N.x, 0, none⟩), .string ky] w8 (fun e w' => e = .returned (.int .i64 (-1)) ∧ IdxAt w' N σ ∧ Fr N.F w8 w') from CP.out).mono ?_; rintro e wa ⟨rfl, ia, fa⟩; have IA := Lib.hid ia; have FA := Lib.hid fa; have MA := Lib.hid (R8.out.mp.fr fa (fun hF => by have := HMB.out.1 mb (Or.inl hF); omega)); have CA := Lib.hid (R8.out.cb.fr fa (fun hF => by have := HCB.out.1 cb (Or.inl hF); omega)); have BA := Lib.hid (R8.out.bl.trans (fa.below R8.out.bl.size (fun k hk => HF.out k (Or.inl hk)))); have k9 := CA.out.rd; have hln := MA.out.len Try.underlying33 3; clear ia fa)
              go_meet
              case rel => exact ⟨σ, IA.out, by rw [HCM.out]; exact MA.out, CA.out, BA.out⟩
          case rest =>
            obtain ⟨σ', hrun⟩ := hcut
            have RC := Lib.hid hrun
            clear hrun hlk k8 hz hr3
            have ML := Lib.hid RC.out.mp
            have IL := Lib.hid RC.out.ix
            have BL := Lib.hid RC.out.bl
            obtain ⟨cm, hcm⟩ : ∃ cm, cm = n - σ'.fl.length := ⟨_, rfl⟩
            have HCM := Lib.hid hcm
            rw [← hcm] at ML
            clear hcm
            go_wp2_with (at_range; refine Mp.wpList_rangeS Try.underlying9 Try.underlying33 (by rfl) _ (by rfl) (by rfl) ML.out ?_; intro wr0 hr0 hb0 hs0; have R0 := Lib.hid hr0; have HB0 := Lib.hid hb0; clear hr0 hb0)
            (try go_frame)
            obtain ⟨rr, hrr⟩ : ∃ rr, rr = wc.heap.size := ⟨_, rfl⟩
            rw [← hrr] at R0 ⊢
            have RR := Lib.hid (show (∀ k, (N.F k ∨ k = N.x) → k < rr) ∧ mb < rr ∧ w.heap.size ≤ rr from ⟨fun k hk => by rw [hrr]; exact IL.out.lt k hk, by rw [hrr]; exact ML.out.lt, by rw [hrr]; exact BL.out.size⟩)
            clear hrr hs0
            go_loopg [17] cm (fun k _ wq => ∃ left, Hid (Mp.RangeS Try.prog 9 wq mb rr cm (KM n σ'.K) left k) ∧ Hid (IdxAt wq N σ') ∧ Hid (Below w.heap.size w wq))
            case atStart => exact ⟨_, R0, Lib.hid (IL.out.keep HB0.out), Lib.hid (below_in BL.out HB0.out)⟩
            case round =>
              obtain ⟨left, RS, IQ, BQ⟩ := hrel
              go_wp2_with (at_next; refine Mp.wpList_nextS Try.underlying9 (by rfl) _ (by rfl) (by rfl) RS.out ?_ ?_)
              · intro _ _
                (try go_frame)
                have CU := Lib.hid (used_any wr IQ.out.ks)
                rw [NN.out, ← HCM.out] at CU
                have hln := (RS.out.map).len Try.underlying33 3
                have CL := Lib.hid (fun wx (hx : Below wr.heap.size wr wx) => ((RS.out.map).keep hx).len Try.underlying33 3)
                have u1 : ((cm : Int) != (cm : Int)) = false := by simp
                clear hln
                go_wp2_with (go_at_call 15; ((with_reducible refine CU.out.mono ?_); rintro e w3 ⟨rfl, b3⟩; have B3 := Lib.hid b3; have hln := CL.out _ b3; clear b3))
                go_roundg (m - (j + 1))
                case measure => have := HK.out; have := HJ.out; omega
                case rel => exact ⟨j + 1, σ', by go_num, HJ.out, Lib.hid rfl, Lib.hid (IQ.out.keep B3.out), Lib.hid (by rw [← HCM.out]; exact (RS.out.map).keep B3.out), Lib.hid (below_in BQ.out B3.out)⟩
              · intro t v w2 n2 hts hlf hMt hrs hlt hfr hsz hen
                obtain ⟨i2, hp2, rfl⟩ := KM_some hMt
                have HLT2 := Lib.hid hlt
                have RS2 := Lib.hid hrs
                have IQ2 := Lib.hid (IQ.out.fr hfr (fun k hk e => by have := RR.out.1 k hk; omega))
                have BQ2 := Lib.hid (BQ.out.trans (hfr.below BQ.out.size (fun k hk => by have := RR.out.2.2; omega)))
                have CF := Lib.hid (ixfind_any t hts w2 IQ2.out)
                rw [NN.out, hp2] at CF
                have u1 : ((i2 : Int) != (i2 : Int)) = false := by simp
                clear hMt hrs hlt hfr hsz hlf hp2
                (try go_frame)
                go_wp2_with (go_at_call 14; refine (show Calls Try.prog 14 #[.pointer (some ⟨N.x, 0, none⟩), .string t] w2 (fun e w' => e = .returned (.int .i64 (i2 : Int)) ∧ Below w2.heap.size w2 w') from CF.out).mono ?_; rintro e w3 ⟨rfl, b3⟩; have B3 := Lib.hid b3; clear b3)
                go_roundg n2
                case measure => exact HLT2.out
                case rel => exact ⟨_, Lib.hid (RS2.out.keep B3.out), Lib.hid (IQ2.out.keep B3.out), Lib.hid (below_in BQ2.out B3.out)⟩
        | some i0 =>
          have hlk : Sem.run Try.prog (Instr.lookup 33 (Value.map (some mb)) (Value.string ky) true) w8 = Result.ok (Value.tuple #[.int .i64 (i0 : Int), .bool true]) w8 := hlk
          have u9 : ((i0 : Int) != (i0 : Int)) = false := by simp
          go_upto_block 2 with (fail)
          go_cut [] from 43 to 113 (fun wx => ∃ σ' : KSt, IxRun w wx N n mb cb σ' 35 #[.int .i64 kd, .string ky])
          case first =>
            obtain ⟨cm, hcm⟩ : ∃ cm, cm = n - σ.fl.length := ⟨_, rfl⟩
            have R8 : IxR0 w w8 N mb cb cm σ (KM n σ.K) 35 #[.int .i64 kd, .string ky] := ⟨R8.out.ix, by rw [hcm]; exact R8.out.mp, R8.out.cb, R8.out.bl⟩
            have R8 := Lib.hid R8
            have HCM := Lib.hid hcm.symm
            rcases hz3 with rfl | rfl | rfl
            · have CP := Lib.hid (ixput_any ky HKY.out w8 R8.out.ix)
              rw [NN.out] at CP
              have he : σ.put n ky = (σ, none) := by
                rcases KSt.put_cases n σ ky with ⟨i, hp, he⟩ | ⟨hp, hf, he⟩ | ⟨hp, _⟩
                · exact he
                · exact he
                · exact absurd (hp.symm.trans HPO.out) (by simp)
              rw [he] at CP
              clear he hcm
              go_wp2_with (go_at_call 11; refine (show Calls Try.prog 11 #[.pointer (some ⟨N.x, 0, none⟩), .string ky] w8 (fun e w' => e = .returned (.int .i64 (-1)) ∧ IdxAt w' N σ ∧ Fr N.F w8 w') from CP.out).mono ?_; rintro e wa ⟨rfl, ia, fa⟩; have IA := Lib.hid ia; have FA := Lib.hid fa; have MA := Lib.hid (R8.out.mp.fr fa (fun hF => by have := HMB.out.1 mb (Or.inl hF); omega)); have CA := Lib.hid (R8.out.cb.fr fa (fun hF => by have := HCB.out.1 cb (Or.inl hF); omega)); have BA := Lib.hid (R8.out.bl.trans (fa.below R8.out.bl.size (fun k hk => HF.out k (Or.inl hk)))); have k9 := CA.out.rd; have hln := MA.out.len Try.underlying33 3; clear ia fa)
              go_meet
              case rel => exact ⟨σ, IA.out, by rw [HCM.out]; exact MA.out, CA.out, BA.out⟩
            · have CP := Lib.hid (ixremove_any ky HKY.out w8 R8.out.ix)
              rw [NN.out] at CP
              have he : σ.del n ky = (⟨σ.fl ++ [i0], fun q => if q = i0 then none else σ.K q⟩, some i0) := by
                rcases KSt.del_cases n σ ky with ⟨i, hp, he⟩ | ⟨hp, _⟩
                · have e2 : i = i0 := Option.some.inj (hp.symm.trans HPO.out)
                  subst e2; exact he
                · exact absurd (hp.symm.trans HPO.out) (by simp)
              rw [he] at CP
              have HKM := Lib.hid (show KM n (fun q => if q = i0 then none else σ.K q) = fun x => if x = ky then none else KM n σ.K x from KM_cut (posN_some HPO.out).2 R8.out.ix.uni.1)
              have hcn : cm - 1 = n - (σ.fl ++ [i0]).length := by rw [List.length_append]; simp; omega
              have HCN := Lib.hid hcn
              clear he hcm hcn
              go_upto_region 31 with (go_at_call 13; refine (show Calls Try.prog 13 #[.pointer (some ⟨N.x, 0, none⟩), .string ky] w8 (fun e w' => e = .returned (.int .i64 (i0 : Int)) ∧ IdxAt w' N ⟨σ.fl ++ [i0], fun q => if q = i0 then none else σ.K q⟩ ∧ Fr N.F w8 w') from CP.out).mono ?_; rintro e wa ⟨rfl, ia, fa⟩; have IA := Lib.hid ia; have FA := Lib.hid fa; have MA := Lib.hid (R8.out.mp.fr fa (fun hF => by have := HMB.out.1 mb (Or.inl hF); omega)); have CA := Lib.hid (R8.out.cb.fr fa (fun hF => by have := HCB.out.1 cb (Or.inl hF); omega)); have BA := Lib.hid (R8.out.bl.trans (fa.below R8.out.bl.size (fun k hk => HF.out k (Or.inl hk)))); have k9 := CA.out.rd; have hln := MA.out.len Try.underlying33 3; clear ia fa)
              obtain ⟨wb, hdr, mb2, fb⟩ := MA.out.drop Try.underlying9 Try.underlying33 HKY.out 0
              rw [HKO.out] at mb2
              have MB := Lib.hid mb2
              have CB := Lib.hid (CA.out.fr fb (fun e => by have := HCB.out.2; omega))
              have IB := Lib.hid (IA.out.fr fb (fun k hk e => by have := HMB.out.1 k hk; omega))
              have BB := Lib.hid (BA.out.trans (fb.below BA.out.size (fun k hk => by have := HMB.out.2; omega)))
              clear mb2 fb hln
              go_wp2
              clear hdr
              go_meet
              case rel => exact ⟨⟨σ.fl ++ [i0], fun q => if q = i0 then none else σ.K q⟩, IB.out, by rw [← HCN.out, HKM.out]; have := MB.out; exact this, CB.out, BB.out⟩
            · have CP := Lib.hid (ixfind_fr ky HKY.out w8 R8.out.ix)
              rw [NN.out, HPO.out] at CP
              clear hcm
              go_wp2_with (go_at_call 14; refine (show Calls Try.prog 14 #[.pointer (some ⟨N.x, 0, none⟩), .string ky] w8 (fun e w' => e = .returned (.int .i64 (i0 : Int)) ∧ IdxAt w' N σ ∧ Fr N.F w8 w') from CP.out).mono ?_; rintro e wa ⟨rfl, ia, fa⟩; have IA := Lib.hid ia; have FA := Lib.hid fa; have MA := Lib.hid (R8.out.mp.fr fa (fun hF => by have := HMB.out.1 mb (Or.inl hF); omega)); have CA := Lib.hid (R8.out.cb.fr fa (fun hF => by have := HCB.out.1 cb (Or.inl hF); omega)); have BA := Lib.hid (R8.out.bl.trans (fa.below R8.out.bl.size (fun k hk => HF.out k (Or.inl hk)))); have k9 := CA.out.rd; have hln := MA.out.len Try.underlying33 3; clear ia fa)
              go_meet
              case rel => exact ⟨σ, IA.out, by rw [HCM.out]; exact MA.out, CA.out, BA.out⟩
          case rest =>
            obtain ⟨σ', hrun⟩ := hcut
            have RC := Lib.hid hrun
            clear hrun hlk k8 hz hr3
            have ML := Lib.hid RC.out.mp
            have IL := Lib.hid RC.out.ix
            have BL := Lib.hid RC.out.bl
            obtain ⟨cm, hcm⟩ : ∃ cm, cm = n - σ'.fl.length := ⟨_, rfl⟩
            have HCM := Lib.hid hcm
            rw [← hcm] at ML
            clear hcm
            go_wp2_with (at_range; refine Mp.wpList_rangeS Try.underlying9 Try.underlying33 (by rfl) _ (by rfl) (by rfl) ML.out ?_; intro wr0 hr0 hb0 hs0; have R0 := Lib.hid hr0; have HB0 := Lib.hid hb0; clear hr0 hb0)
            (try go_frame)
            obtain ⟨rr, hrr⟩ : ∃ rr, rr = wc.heap.size := ⟨_, rfl⟩
            rw [← hrr] at R0 ⊢
            have RR := Lib.hid (show (∀ k, (N.F k ∨ k = N.x) → k < rr) ∧ mb < rr ∧ w.heap.size ≤ rr from ⟨fun k hk => by rw [hrr]; exact IL.out.lt k hk, by rw [hrr]; exact ML.out.lt, by rw [hrr]; exact BL.out.size⟩)
            clear hrr hs0
            go_loopg [17] cm (fun k _ wq => ∃ left, Hid (Mp.RangeS Try.prog 9 wq mb rr cm (KM n σ'.K) left k) ∧ Hid (IdxAt wq N σ') ∧ Hid (Below w.heap.size w wq))
            case atStart => exact ⟨_, R0, Lib.hid (IL.out.keep HB0.out), Lib.hid (below_in BL.out HB0.out)⟩
            case round =>
              obtain ⟨left, RS, IQ, BQ⟩ := hrel
              go_wp2_with (at_next; refine Mp.wpList_nextS Try.underlying9 (by rfl) _ (by rfl) (by rfl) RS.out ?_ ?_)
              · intro _ _
                (try go_frame)
                have CU := Lib.hid (used_any wr IQ.out.ks)
                rw [NN.out, ← HCM.out] at CU
                have hln := (RS.out.map).len Try.underlying33 3
                have CL := Lib.hid (fun wx (hx : Below wr.heap.size wr wx) => ((RS.out.map).keep hx).len Try.underlying33 3)
                have u1 : ((cm : Int) != (cm : Int)) = false := by simp
                clear hln
                go_wp2_with (go_at_call 15; ((with_reducible refine CU.out.mono ?_); rintro e w3 ⟨rfl, b3⟩; have B3 := Lib.hid b3; have hln := CL.out _ b3; clear b3))
                go_roundg (m - (j + 1))
                case measure => have := HK.out; have := HJ.out; omega
                case rel => exact ⟨j + 1, σ', by go_num, HJ.out, Lib.hid rfl, Lib.hid (IQ.out.keep B3.out), Lib.hid (by rw [← HCM.out]; exact (RS.out.map).keep B3.out), Lib.hid (below_in BQ.out B3.out)⟩
              · intro t v w2 n2 hts hlf hMt hrs hlt hfr hsz hen
                obtain ⟨i2, hp2, rfl⟩ := KM_some hMt
                have HLT2 := Lib.hid hlt
                have RS2 := Lib.hid hrs
                have IQ2 := Lib.hid (IQ.out.fr hfr (fun k hk e => by have := RR.out.1 k hk; omega))
                have BQ2 := Lib.hid (BQ.out.trans (hfr.below BQ.out.size (fun k hk => by have := RR.out.2.2; omega)))
                have CF := Lib.hid (ixfind_any t hts w2 IQ2.out)
                rw [NN.out, hp2] at CF
                have u1 : ((i2 : Int) != (i2 : Int)) = false := by simp
                clear hMt hrs hlt hfr hsz hlf hp2
                (try go_frame)
                go_wp2_with (go_at_call 14; refine (show Calls Try.prog 14 #[.pointer (some ⟨N.x, 0, none⟩), .string t] w2 (fun e w' => e = .returned (.int .i64 (i2 : Int)) ∧ Below w2.heap.size w2 w') from CF.out).mono ?_; rintro e w3 ⟨rfl, b3⟩; have B3 := Lib.hid b3; clear b3)
                go_roundg n2
                case measure => exact HLT2.out
                case rel => exact ⟨_, Lib.hid (RS2.out.keep B3.out), Lib.hid (IQ2.out.keep B3.out), Lib.hid (below_in BQ2.out B3.out)⟩
    · have hje : j = m := by omega
      subst hje
      go_wp2
      go_ret
      exact ⟨rfl, BJ.out⟩
end Go.Proofs.Ytebcgiblgkiceaa
