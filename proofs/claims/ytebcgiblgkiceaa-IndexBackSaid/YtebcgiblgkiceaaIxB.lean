/- The law IndexBack of layer 5 (index), walked. -/
import Derived.Test.YtebcgiblgkiceaaIxK
import Derived.Test.YtebcgiblgkiceaaRdL
namespace Go.Proofs.Ytebcgiblgkiceaa
set_option linter.unusedSimpArgs false
set_option linter.unusedVariables false
open Go.ChangeShapes Go.WideShapes Go.ChangeAt Go.RowKit
set_option maxHeartbeats 8000000 in
set_option maxRecDepth 100000 in
theorem back_law (w : World) (d1 d2 d3 : Nat) (A : Option Addr) (m c : Nat) (L : List ByteArray) (s : ByteArray) (hd : d1 < 18446744073709551616 ∧ d2 < 18446744073709551616 ∧ d3 < 18446744073709551616) (hr : RdL w A m c 1 encS L) (hok : ∀ s ∈ L, s.size ≤ maxLen) (hs : s.size ≤ maxLen) :
    Calls Try.prog 6 #[.agg #[.int .u64 d1, .int .u64 d2, .int .u64 d3], .slice A m c, .string s] w fun e w' => e = .returned (.bool true) ∧ Below w.heap.size w w' := by
  have hmx := hr.max
  unfold maxLen at hmx
  have hcp := hr.cap
  have hs0 := hs
  unfold maxLen at hs0
  have CR := Lib.hid (fun w => row_any d1 d2 d3 hd.1 hd.2.1 hd.2.2 w)
  have DL := Lib.hid (d_lt d1 d2 d3)
  obtain ⟨X, hX⟩ : ∃ X, X = dX d1 d2 d3 := ⟨_, rfl⟩
  obtain ⟨Y, hY⟩ : ∃ X, X = dA d1 d2 d3 := ⟨_, rfl⟩
  obtain ⟨Z, hZ⟩ : ∃ X, X = dB d1 d2 d3 := ⟨_, rfl⟩
  rw [← hX, ← hY, ← hZ] at CR DL
  have HR := Lib.hid hr
  have HO := Lib.hid hok
  have HS := Lib.hid hs
  clear hr hok hd hX hY hZ hs
  by_cases hm : (20 : Int) < (m : Int)
  · have t1 : decide ((20 : Int) < (m : Int)) = true := by simpa using hm
    go_enter Try.func6, Try.ntmps6
    go_wp2_with (go_at_call 7; refine (ixfit_any _).mono ?_; rintro e w1 ⟨rfl, bb⟩; have B1 := Lib.hid (below_in ((Below.refl _ _).alloc (Nat.le_refl _) _) bb); clear bb)
    go_ret
    exact ⟨rfl, B1.out⟩
  have t1 : decide ((20 : Int) < (m : Int)) = false := by simpa using hm
  by_cases hl : (64 : Int) < (s.size : Int)
  · have t2 : decide ((64 : Int) < (s.size : Int)) = true := by simpa using hl
    go_enter Try.func6, Try.ntmps6
    go_wp2_with (go_at_call 7; refine (ixfit_any _).mono ?_; rintro e w1 ⟨rfl, bb⟩; have B1 := Lib.hid (below_in ((Below.refl _ _).alloc (Nat.le_refl _) _) bb); clear bb)
    go_ret
    exact ⟨rfl, B1.out⟩
  have t2 : decide ((64 : Int) < (s.size : Int)) = false := by simpa using hl
  have hm2 : (m : Int) ≤ 20 := by omega
  have hl2 : (s.size : Int) ≤ 64 := by omega
  have hmm := @run_makeMap Try.prog
  clear hm hl
  go_enter Try.func6, Try.ntmps6
  go_upto_region 1 with (fail)
  obtain ⟨w0, hw0, k0, l0, s0⟩ := box_new w #[.int .u64 (d1 : Int), .int .u64 (d2 : Int), .int .u64 (d3 : Int)] 23
  rw [hw0]
  obtain ⟨db, hdb⟩ : ∃ db, db = w.heap.size := ⟨_, rfl⟩
  rw [← hdb] at k0 ⊢
  have K0 := Lib.hid k0
  have L0 := Lib.hid l0
  clear hw0 k0 l0 s0 hdb
  go_upto_region 5 with (go_at_call 7; refine (ixfit_any _).mono ?_; rintro e w1 ⟨rfl, bb⟩; have K1 := Lib.hid (K0.out.keep bb); have L1 := Lib.hid (below_in L0.out bb); clear bb)
  have S0 := Lib.hid (fun (wx : World) (hx : Below w1.heap.size w1 wx) => (K1.out.keep hx).rd)
  have y0 : Below w1.heap.size w1 w1.drew := below_draws (Below.refl _ _) 1
  have Y0 := Lib.hid y0
  refine wp_region_held_drew (S := fun w' => ∀ j, w'.cell? ⟨db, j, none⟩ = (#[.int .u64 (d1 : Int), .int .u64 (d2 : Int), .int .u64 (d3 : Int)] : Array Value)[j]?) (by kernel_rfl) (S0.out _ y0) (fun hHeld => ?_)
  clear y0
  refine wpAnyH_take (i := 1) (oi := ?_) (v := ?_) ?_ ?_ ?_ ?_ ?_ ?_ ?_ ?_
  rotate_left 2
  · simp only [List.getElem?_toArray, List.getElem?_cons_succ, List.getElem?_cons_zero]; rfl
  · kernel_rfl
  · kernel_rfl
  · kernel_rfl
  · exact fun _ _ _ h => h
  · refine Or.inl ⟨by rfl, ?_⟩
    intro w' hSw
    (try dsimp only at hSw)
    go_simp
    all_goals (with_reducible rfl)
  · assumption
  try simp only [Act.put, List.setIfInBounds_toArray, List.set_cons_zero, List.set_cons_succ]
  refine wpAnyH_ready (rs := [0]) (by kernel_rfl) (by simp) ?_
  refine AllReadyH.cons (o := ?_) ?_ ?_ ?_
  rotate_left 1
  · simp only [List.getElem?_toArray, List.getElem?_cons_succ, List.getElem?_cons_zero]; rfl
  rotate_left 1
  · exact AllReadyH.nil
  intro K hK
  go_simp
  (refine (show Calls Try.prog 8 #[.int .i64 24] _ _ from new_yes 24 (by omega) _).mono ?_); rintro e w2 ⟨b, gb, gs, gf, rfl, hk, bk, hb⟩; have KK1 := Lib.hid hk; have Z2 := Lib.hid bk.size; have Y1 := Lib.hid (below_in Y0.out bk); have HB1 := Lib.hid hb; clear hk bk hb
  refine hK.out _ _ (S0.out _ Y1.out) (fun hHeld => ?_)
  clear hK K
  try simp only [Act.put, List.setIfInBounds_toArray, List.set_cons_zero, List.set_cons_succ]
  refine wpAnyH_ready (rs := [2]) (by kernel_rfl) (by simp) ?_
  refine AllReadyH.cons (o := ?_) ?_ ?_ ?_
  rotate_left 1
  · simp only [List.getElem?_toArray, List.getElem?_cons_succ, List.getElem?_cons_zero]; rfl
  rotate_left 1
  · exact AllReadyH.nil
  intro K hK
  go_simp
  ((with_reducible refine (CR.out _).mono ?_); rintro e w3 ⟨rfl, bk⟩; have Z3 := Lib.hid bk.size; have Y2 := Lib.hid (below_in Y1.out bk); have KK2 := Lib.hid (KK1.out.keep bk); clear bk)
  refine hK.out _ _ (S0.out _ Y2.out) (fun hHeld => ?_)
  clear hK K
  try simp only [Act.put, List.setIfInBounds_toArray, List.set_cons_zero, List.set_cons_succ]
  refine wpAnyH_ready (rs := [3]) (by kernel_rfl) (by simp) ?_
  refine AllReadyH.cons (o := ?_) ?_ ?_ ?_
  rotate_left 1
  · simp only [List.getElem?_toArray, List.getElem?_cons_succ, List.getElem?_cons_zero]; rfl
  rotate_left 1
  · exact AllReadyH.nil
  intro K hK
  go_simp
  ((with_reducible refine (ixnew_st X Y Z DL.out.1 DL.out.2.1 DL.out.2.2 b gb gs gf 24 _ KK2.out).mono ?_); rintro e w4 ⟨x, g, rfl, hi, bk, hb⟩; have I1 := Lib.hid hi; have HX1 := Lib.hid hb; have Y3 := Lib.hid (below_in Y2.out bk); clear hi bk hb)
  refine hK.out _ _ (S0.out _ Y3.out) (fun hHeld => ?_)
  clear hK K
  try simp only [Act.put, List.setIfInBounds_toArray, List.set_cons_zero, List.set_cons_succ]
  refine wpAnyH_take (i := 4) (oi := ?_) (v := ?_) ?_ ?_ ?_ ?_ ?_ ?_ ?_ ?_
  rotate_left 2
  · simp only [List.getElem?_toArray, List.getElem?_cons_succ, List.getElem?_cons_zero]; rfl
  · kernel_rfl
  · kernel_rfl
  · kernel_rfl
  · exact fun _ _ _ h => h
  · refine Or.inl ⟨by rfl, ?_⟩
    intro w' hSw
    (try dsimp only at hSw)
    go_simp
    all_goals (with_reducible rfl)
  · assumption
  try simp only [Act.put, List.setIfInBounds_toArray, List.set_cons_zero, List.set_cons_succ]
  refine wpAnyH_done (by kernel_rfl) ?_ _
  clear hHeld
  obtain ⟨N, hN⟩ : ∃ N : IxN, N = ⟨x, b, X, Y, Z, g, gb, gs, gf, 24⟩ := ⟨_, rfl⟩
  have I0 := I1.out
  rw [← hN] at I0
  have hl1 := I0.lt
  have y1 := HB1.out
  have y2 := HX1.out
  have z1 := L1.out.size
  have z2 := Z2.out
  have z3 := Z3.out
  have zd : w1.drew.heap.size = w1.heap.size := rfl
  have HF := Lib.hid (show ∀ k, (N.F k ∨ k = N.x) → w.heap.size ≤ k from fun k hk => by
    rw [hN] at hk
    rcases hk with (hk | hk | hk | hk | hk) | hk <;> simp only at hk <;> omega)
  have e3 : x = N.x := by rw [hN]
  have NN := Lib.hid (show N.n = 24 by rw [hN])
  have I2 := Lib.hid (show IdxAt w4 N (kNew 24) from I0)
  have HLT := Lib.hid hl1
  have L4 := Lib.hid (show Below w.heap.size w w4 from L1.out.trans (Y3.out.mono z1))
  clear hN I0 hl1 y1 y2 z1 z2 z3 zd
  subst e3
  clear S0 K0 K1 L0 L1 KK1 KK2 I1 HX1 HB1 Z2 Z3 Y0 Y1 Y2 Y3 CR DL
  go_upto_region 7 with (fail)
  have hm0 : Mp.MapS Try.prog 9 (w4.alloc (.map #[] 0)) w4.heap.size 0 (KM 24 (kNew 24).K) := by
    have := Mp.MapS.new (P := Try.prog) (k := 9) w4
    rwa [← KM_new 24] at this
  obtain ⟨mb, hmb⟩ : ∃ mb, mb = w4.heap.size := ⟨_, rfl⟩
  rw [← hmb] at hm0 ⊢
  have bl5 : Below w4.heap.size w4 (w4.alloc (.map #[] 0)) := (Below.refl _ _).alloc (Nat.le_refl _) _
  have I5 := Lib.hid (I2.out.keep bl5)
  have M5 := Lib.hid hm0
  have L5 := Lib.hid (below_in L4.out bl5)
  have HMB := Lib.hid (show (∀ k, (N.F k ∨ k = N.x) → k < mb) ∧ w.heap.size ≤ mb from ⟨fun k hk => by rw [hmb]; exact HLT.out k hk, by rw [hmb]; exact L4.out.size⟩)
  generalize w4.alloc (.map #[] 0) = w5 at I5 M5 L5 ⊢
  have HLEN := Lib.hid HR.out.len
  clear hm0 hmb bl5 hmm
  go_wp2
  go_loopg [34] m (fun k si wr => ∃ (j : Nat) (σ : KSt) (cm : Nat), si = .int .i64 (j : Int) ∧ j ≤ m ∧ Hid (k = m - j) ∧ Hid (IdxAt wr N σ) ∧ Hid (Mp.MapS Try.prog 9 wr mb cm (KM 24 σ.K)) ∧ Hid (24 ≤ σ.fl.length + j ∧ cm ≤ j) ∧ Hid (Below w.heap.size w wr))
  case atStart => exact ⟨0, kNew 24, 0, rfl, by omega, Lib.hid rfl, I5, M5, Lib.hid ⟨by simp [kNew], Nat.le_refl _⟩, L5⟩
  case round =>
    obtain ⟨j, σ, cm, rfl, hj, HK, IJ, MJ, CJ, BJ⟩ := hrel
    by_cases hjm : j < m
    · have HJ := Lib.hid hjm
      obtain ⟨rb, off, rfl, hlt, hc⟩ := HR.out.at_ (by omega)
      have hjl : j < L.length := by rw [HLEN.out]; exact hjm
      obtain ⟨t, ht⟩ : ∃ t, L[j]? = some t := ⟨_, List.getElem?_eq_getElem hjl⟩
      have kt : wr.cell? ⟨rb, off + j, none⟩ = some (.string t) := by
        have := hc j t ht 0 (by omega)
        rw [Nat.mul_one, Nat.add_zero] at this
        rw [BJ.out.cell (p := ⟨rb, off + j, none⟩) hlt]; exact this
      have hts := HO.out t (List.mem_of_getElem? ht)
      have HTS := Lib.hid hts
      unfold maxLen at hts
      have t3 : (j : Int) < (m : Int) := by omega
      clear hc ht hjl hlt hjm
      by_cases h64 : (64 : Int) < (t.size : Int)
      · go_wp2
        go_ret
        exact ⟨rfl, BJ.out⟩
      · have h64' : t.size ≤ 64 := by omega
        have CP := Lib.hid (ixput_any t HTS.out wr IJ.out)
        rw [NN.out] at CP
        rcases KSt.put_cases 24 σ t with ⟨i, hp, he⟩ | ⟨hp, hf, he⟩ | ⟨hp, _, fl, i, hfl, he⟩
        · rw [he] at CP
          clear hp he h64'
          go_wp2_with (go_at_call 11; refine (show Calls Try.prog 11 #[.pointer (some ⟨N.x, 0, none⟩), .string t] wr (fun e w' => e = .returned (.int .i64 (-1)) ∧ IdxAt w' N σ ∧ Fr N.F wr w') from CP.out).mono ?_; rintro e wa ⟨rfl, ia, fa⟩; have IA := Lib.hid ia; have FA := Lib.hid fa; clear ia fa)
          go_roundg (m - (j + 1))
          case measure => have := HK.out; have := HJ.out; omega
          case rel => exact ⟨j + 1, σ, cm, by go_num, HJ.out, Lib.hid rfl, IA, Lib.hid (MJ.out.fr FA.out (fun hF => by have := HMB.out.1 mb (Or.inl hF); omega)), Lib.hid (by have := CJ.out; omega), Lib.hid (BJ.out.trans (FA.out.below BJ.out.size (fun k hk => HF.out k (Or.inl hk))))⟩
        · exfalso
          rcases hf with hf | hf
          · omega
          · have := CJ.out.1
            rw [hf] at this
            simp at this
            have := HJ.out
            omega
        · rw [he] at CP
          have hin := (IJ.out.uni.2.2.2.free (i := i) (by rw [hfl]; simp))
          have hno := IJ.out.no (by rw [NN.out]; exact hp)
          have HKM := Lib.hid (show KM 24 (fun q => if q = i then some t else σ.K q) = fun x => if x = t then some (.int .i64 (i : Int)) else KM 24 σ.K x from KM_upd (by rw [← NN.out]; exact hin.1) hin.2 hno)
          have hMt : (KM 24 σ.K t).isSome = false := by unfold KM; rw [hp]; rfl
          have HMt := Lib.hid hMt
          have CJ2 := Lib.hid (show 24 ≤ fl.length + (j + 1) ∧ cm + 1 ≤ j + 1 by
            have := CJ.out
            rw [hfl] at this
            simp at this
            omega)
          clear hp he hin hno hfl hMt h64'
          go_upto_region 14 with (go_at_call 11; refine (show Calls Try.prog 11 #[.pointer (some ⟨N.x, 0, none⟩), .string t] wr (fun e w' => e = .returned (.int .i64 (i : Int)) ∧ IdxAt w' N ⟨fl, fun q => if q = i then some t else σ.K q⟩ ∧ Fr N.F wr w') from CP.out).mono ?_; rintro e wa ⟨rfl, ia, fa⟩; have IA := Lib.hid ia; have FA := Lib.hid fa; clear ia fa)
          have ma := MJ.out.fr FA.out (fun hF => by have := HMB.out.1 mb (Or.inl hF); omega)
          obtain ⟨wb, hst, mb', fb⟩ := ma.store Try.underlying9 Try.underlying33 (by have := CJ.out.2; have := HJ.out; unfold maxLen; omega) HTS.out (.int .i64 (i : Int))
          rw [HMt.out, if_neg (by simp), ← HKM.out] at mb'
          have MB := Lib.hid mb'
          have IB := Lib.hid (show IdxAt wb N ⟨fl, fun q => if q = i then some t else σ.K q⟩ from IA.out.fr fb (fun k hk e => by have := HMB.out.1 k hk; omega))
          have BB := Lib.hid ((BJ.out.trans (FA.out.below BJ.out.size (fun k hk => HF.out k (Or.inl hk)))).trans (fb.below (Nat.le_trans BJ.out.size FA.out.size) (fun k hk => by have := HMB.out.2; omega)))
          clear ma mb' fb
          go_wp2
          clear hst
          go_roundg (m - (j + 1))
          case measure => have := HK.out; have := HJ.out; omega
          case rel => exact ⟨j + 1, ⟨fl, fun q => if q = i then some t else σ.K q⟩, cm + 1, by go_num, HJ.out, Lib.hid rfl, IB, MB, CJ2, BB⟩
    · have hje : j = m := by omega
      subst hje
      have hlk := MJ.out.look_ok Try.underlying9 Try.underlying33 (z := .int .i64 0) (by kernel_rfl) HS.out
      have CP := Lib.hid (ixput_any s HS.out wr IJ.out)
      rw [NN.out] at CP
      rcases KSt.put_cases 24 σ s with ⟨i, hp, he⟩ | ⟨hp, hf, he⟩ | ⟨hp, h64, fl, i, hfl, he⟩
      · as_aux_lemma =>
          rw [he] at CP
          have e7 : KM 24 σ.K s = some (.int .i64 (i : Int)) := by unfold KM; rw [hp]; rfl
          rw [e7] at hlk
          simp only [Option.getD_some, Option.isSome_some] at hlk
          clear hp he e7
          go_upto_region 18 with (go_at_call 11; refine (show Calls Try.prog 11 #[.pointer (some ⟨N.x, 0, none⟩), .string s] wr (fun e w' => e = .returned (.int .i64 (-1)) ∧ IdxAt w' N σ ∧ Fr N.F wr w') from CP.out).mono ?_; rintro e wl ⟨rfl, ia, fa⟩; have IL := Lib.hid ia; have FA := Lib.hid fa; clear ia fa)
          have ML := Lib.hid (MJ.out.fr FA.out (fun hF => by have := HMB.out.1 mb (Or.inl hF); omega))
          have BL := Lib.hid (BJ.out.trans (FA.out.below BJ.out.size (fun k hk => HF.out k (Or.inl hk))))
          clear hlk
          go_upto_region 20 with (fail)
          go_wp2_with (at_range; refine Mp.wpList_rangeS Try.underlying9 Try.underlying33 (by rfl) _ (by rfl) (by rfl) ML.out ?_; intro wr0 hr0 hb0 hs0; have R0 := Lib.hid hr0; have HB0 := Lib.hid hb0; clear hr0 hb0)
          go_frame
          obtain ⟨rr, hrr⟩ : ∃ rr, rr = wl.heap.size := ⟨_, rfl⟩
          rw [← hrr] at R0 ⊢
          have RR := Lib.hid (show (∀ k, (N.F k ∨ k = N.x) → k < rr) ∧ mb < rr ∧ w.heap.size ≤ rr from ⟨fun k hk => by rw [hrr]; exact IL.out.lt k hk, by rw [hrr]; exact ML.out.lt, by rw [hrr]; exact BL.out.size⟩)
          clear hrr hs0
          go_loopg [15] cm (fun k _ wq => ∃ left, Hid (Mp.RangeS Try.prog 9 wq mb rr cm (KM 24 σ.K) left k) ∧ Hid (IdxAt wq N σ) ∧ Hid (Below w.heap.size w wq))
          case atStart => exact ⟨_, R0, Lib.hid (IL.out.keep HB0.out), Lib.hid (below_in BL.out HB0.out)⟩
          case round =>
            obtain ⟨left, RS, IQ, BQ⟩ := hrel
            go_wp2_with (at_next; refine Mp.wpList_nextS Try.underlying9 (by rfl) _ (by rfl) (by rfl) RS.out ?_ ?_)
            · intro _ _
              (try go_frame)
              go_wp2
              go_ret
              exact ⟨rfl, BQ.out⟩
            · intro t v w2 n2 hts hlf hMt hrs hlt hfr hsz hen
              obtain ⟨i2, hp2, rfl⟩ := KM_some hMt
              have HLT2 := Lib.hid hlt
              have RS2 := Lib.hid hrs
              have IQ2 := Lib.hid (IQ.out.fr hfr (fun k hk e => by have := RR.out.1 k hk; omega))
              have BQ2 := Lib.hid (BQ.out.trans (hfr.below BQ.out.size (fun k hk => by have := RR.out.2.2; omega)))
              have CF := Lib.hid (ixfind_any t hts w2 IQ2.out)
              rw [NN.out, hp2] at CF
              have u1 : ((i2 : Int) != (i2 : Int)) = false := by simp
              clear hMt hrs hlt hfr hsz hlf hp2
              (try go_frame)
              go_wp2_with (go_at_call 14; refine (show Calls Try.prog 14 #[.pointer (some ⟨N.x, 0, none⟩), .string t] w2 (fun e w' => e = .returned (.int .i64 (i2 : Int)) ∧ Below w2.heap.size w2 w') from CF.out).mono ?_; rintro e w3 ⟨rfl, b3⟩; have B3 := Lib.hid b3; clear b3)
              go_roundg n2
              case measure => exact HLT2.out
              case rel => exact ⟨_, Lib.hid (RS2.out.keep B3.out), Lib.hid (IQ2.out.keep B3.out), Lib.hid (below_in BQ2.out B3.out)⟩
      · exfalso
        rcases hf with hf | hf
        · omega
        · have := CJ.out.1
          rw [hf] at this
          simp at this
          omega
      · as_aux_lemma =>
          rw [he] at CP
          have HP := Lib.hid hp
          have HE := Lib.hid he
          have e7 : KM 24 σ.K s = none := by unfold KM; rw [hp]; rfl
          rw [e7] at hlk
          simp only [Option.getD_none, Option.isSome_none] at hlk
          have hin := (IJ.out.uni.2.2.2.free (i := i) (by rw [hfl]; simp))
          have HB9 := Lib.hid (show (fun j => if j = i then none else (if j = i then some s else σ.K j)) = σ.K from by
            funext q
            by_cases hq : q = i
            · subst hq; simp [hin.2]
            · simp [hq])
          have HFL := Lib.hid hfl
          have u0 : ((i : Int) != (i : Int)) = false := by simp
          clear hp he e7 hin hfl
          go_upto_region 18 with (go_at_call 11; refine (show Calls Try.prog 11 #[.pointer (some ⟨N.x, 0, none⟩), .string s] wr (fun e w' => e = .returned (.int .i64 (i : Int)) ∧ IdxAt w' N ⟨fl, fun j => if j = i then some s else σ.K j⟩ ∧ Fr N.F wr w') from CP.out).mono ?_; rintro e wa ⟨rfl, ia, fa⟩; have IA := Lib.hid ia; have FA := Lib.hid fa; clear ia fa)
          clear hlk
          go_wp2_with (fail)
          refine (ixfind_yes i s HS.out wa IA.out (by simp)).mono ?_
          rintro e wb ⟨rfl, bb⟩
          have IB := Lib.hid (IA.out.keep bb)
          have FB := Lib.hid (FA.out.trans (Fr.of_below bb))
          clear bb
          go_wp2_with (fail)
          refine (ixremove_yes i s HS.out wb IB.out (by simp)).mono ?_
          rintro e wl ⟨rfl, il, fl'⟩
          rw [HB9.out, ← HFL.out] at il
          have IL := Lib.hid (show IdxAt wl N σ from il)
          have FL := Lib.hid (FB.out.trans fl')
          have ML := Lib.hid (MJ.out.fr FL.out (fun hF => by have := HMB.out.1 mb (Or.inl hF); omega))
          have BL := Lib.hid (BJ.out.trans (FL.out.below BJ.out.size (fun k hk => HF.out k (Or.inl hk))))
          clear il fl'
          go_upto_region 20 with (fail)
          go_wp2_with (at_range; refine Mp.wpList_rangeS Try.underlying9 Try.underlying33 (by rfl) _ (by rfl) (by rfl) ML.out ?_; intro wr0 hr0 hb0 hs0; have R0 := Lib.hid hr0; have HB0 := Lib.hid hb0; clear hr0 hb0)
          go_frame
          obtain ⟨rr, hrr⟩ : ∃ rr, rr = wl.heap.size := ⟨_, rfl⟩
          rw [← hrr] at R0 ⊢
          have RR := Lib.hid (show (∀ k, (N.F k ∨ k = N.x) → k < rr) ∧ mb < rr ∧ w.heap.size ≤ rr from ⟨fun k hk => by rw [hrr]; exact IL.out.lt k hk, by rw [hrr]; exact ML.out.lt, by rw [hrr]; exact BL.out.size⟩)
          clear hrr hs0
          go_loopg [15] cm (fun k _ wq => ∃ left, Hid (Mp.RangeS Try.prog 9 wq mb rr cm (KM 24 σ.K) left k) ∧ Hid (IdxAt wq N σ) ∧ Hid (Below w.heap.size w wq))
          case atStart => exact ⟨_, R0, Lib.hid (IL.out.keep HB0.out), Lib.hid (below_in BL.out HB0.out)⟩
          case round =>
            obtain ⟨left, RS, IQ, BQ⟩ := hrel
            go_wp2_with (at_next; refine Mp.wpList_nextS Try.underlying9 (by rfl) _ (by rfl) (by rfl) RS.out ?_ ?_)
            · intro _ _
              (try go_frame)
              have CF := Lib.hid (ixfind_any s HS.out wr IQ.out)
              rw [NN.out, HP.out] at CF
              go_wp2_with (fail)
              refine (show Calls Try.prog 14 #[.pointer (some ⟨N.x, 0, none⟩), .string s] wr (fun e w' => e = .returned (.int .i64 (-1)) ∧ Below wr.heap.size wr w') from CF.out).mono ?_
              rintro e w3 ⟨rfl, b3⟩
              have IQ3 := Lib.hid (IQ.out.keep b3)
              have BQ3 := Lib.hid (below_in BQ.out b3)
              have CP3 := Lib.hid (ixput_any s HS.out w3 IQ3.out)
              rw [NN.out, HE.out] at CP3
              clear b3
              go_wp2_with (fail)
              refine (show Calls Try.prog 11 #[.pointer (some ⟨N.x, 0, none⟩), .string s] w3 (fun e w' => e = .returned (.int .i64 (i : Int)) ∧ _ ∧ Fr N.F w3 w') from CP3.out).mono ?_
              rintro e w4 ⟨rfl, _, f4⟩
              have BQ4 := Lib.hid (BQ3.out.trans (f4.below BQ3.out.size (fun k hk => HF.out k (Or.inl hk))))
              clear f4
              go_wp2
              go_ret
              exact ⟨rfl, BQ4.out⟩
            · intro t v w2 n2 hts hlf hMt hrs hlt hfr hsz hen
              obtain ⟨i2, hp2, rfl⟩ := KM_some hMt
              have HLT2 := Lib.hid hlt
              have RS2 := Lib.hid hrs
              have IQ2 := Lib.hid (IQ.out.fr hfr (fun k hk e => by have := RR.out.1 k hk; omega))
              have BQ2 := Lib.hid (BQ.out.trans (hfr.below BQ.out.size (fun k hk => by have := RR.out.2.2; omega)))
              have CF := Lib.hid (ixfind_any t hts w2 IQ2.out)
              rw [NN.out, hp2] at CF
              have u1 : ((i2 : Int) != (i2 : Int)) = false := by simp
              clear hMt hrs hlt hfr hsz hlf hp2
              (try go_frame)
              go_wp2_with (go_at_call 14; refine (show Calls Try.prog 14 #[.pointer (some ⟨N.x, 0, none⟩), .string t] w2 (fun e w' => e = .returned (.int .i64 (i2 : Int)) ∧ Below w2.heap.size w2 w') from CF.out).mono ?_; rintro e w3 ⟨rfl, b3⟩; have B3 := Lib.hid b3; clear b3)
              go_roundg n2
              case measure => exact HLT2.out
              case rel => exact ⟨_, Lib.hid (RS2.out.keep B3.out), Lib.hid (IQ2.out.keep B3.out), Lib.hid (below_in BQ2.out B3.out)⟩
end Go.Proofs.Ytebcgiblgkiceaa
