/- The contracts of layer 8 (summary): Offer. -/
import Derived.Test.YtnpiimaapholiaaSmM
import Derived.Deep.CutRange
namespace Go.Proofs.Ytnpiimaapholiaa
set_option linter.unusedSimpArgs false
set_option linter.unusedVariables false
open Go.ChangeShapes Go.WideShapes Go.ChangeAt Go.RowKit
section
variable {w W : World} {Q : SmN} {L M : List Ent} {tot : Int} {σ : KSt}
theorem SmAt.keyuni (h : SmAt w Q L tot σ) {i j : Nat} {x y : Ent} (hj : L[j]? = some x) (hi : L[i]? = some y) (hk : y.k = x.k) : i = j := by
  have h1 := h.ok.key x (List.mem_of_getElem? hj)
  have h2 := h.ok.key y (List.mem_of_getElem? hi)
  rw [hk] at h2
  have hp := h.ix.uni.1 _ _ _ h2 h1
  rcases Nat.decEq i j with hne | he
  · exact absurd hp (h.ok.other hi hj hne)
  · exact he
set_option maxRecDepth 100000 in
set_option maxHeartbeats 4000000 in
theorem smoffer_in (s : ByteArray) (hs : s.size ≤ 64) (d : Int) (hd : 1 ≤ d ∧ d < 4611686018427387904) (w : World) (h : SmAt w Q L tot σ) :
    Calls Try.prog 15 #[.pointer (some ⟨Q.s, 0, none⟩), .string s, .int .i64 d] w fun e w' => e = .returned (.tuple #[]) ∧ (∃ L' σ', SmAt w' Q L' (offerM Q.N.n (L.map Ent.c) tot s d).2 σ' ∧ L'.map Ent.c = (offerM Q.N.n (L.map Ent.c) tot s d).1) ∧ Fr Q.F w w' := by
  have hoff : offerM Q.N.n (L.map Ent.c) tot s d = (riseM (incM (preM Q.N.n (begM (L.map Ent.c) tot d).1 s).1 (preM Q.N.n (begM (L.map Ent.c) tot d).1 s).2 d) (preM Q.N.n (begM (L.map Ent.c) tot d).1 s).2, (begM (L.map Ent.c) tot d).2 + d) := by
    unfold offerM; rw [if_neg (by omega)]
  rw [hoff]
  clear hoff
  have t1 : decide (d < (1 : Int)) = false := by rw [decide_eq_false_iff_not]; omega
  have t2 : decide ((4611686018427387904 : Int) ≤ d) = false := by rw [decide_eq_false_iff_not]; omega
  have t3 : decide ((64 : Int) < (s.size : Int)) = false := by rw [decide_eq_false_iff_not]; omega
  obtain ⟨e, he⟩ : ∃ e, e = 4611686018427387904 - d := ⟨_, rfl⟩
  have e1 : IntKind.i64.wrap (4611686018427387904 - d) = e := by rw [IntKind.wrap_i64]; omega
  have H := Lib.hid h
  have HD := Lib.hid (And.intro hd (And.intro he hs))
  have k := h.hs.rd
  clear h hd he hs
  go_enter Try.func15, Try.ntmps15
  go_upto_if 28 with (fail)
  go_cut [] from 28 to 30 (fun wx => ∃ (L0 : List Ent) (σ0 : KSt) (t0 : Int), Hid (SmAt wx Q L0 t0 σ0) ∧ Hid (Fr Q.F w wx) ∧ Hid ((L0.map Ent.c, t0) = begM (L.map Ent.c) tot d) ∧ Hid (t0 + d < 4611686018427387904))
  case first =>
    by_cases hb : e ≤ tot
    · have b1 : decide (e ≤ tot) = true := by rw [decide_eq_true_iff]; exact hb
      have CC := Lib.hid (smclear_any w H.out)
      have HB := Lib.hid (show (([] : List Ent).map Ent.c, (0 : Int)) = begM (L.map Ent.c) tot d from by unfold begM; rw [if_pos (by have := HD.out; omega)]; rfl)
      go_wp2_with (go_at_call 22; ((with_reducible refine CC.out.mono ?_); rintro e' w1 ⟨rfl, ⟨ρ, h1⟩, f1⟩; have H1 := Lib.hid h1; have F1 := Lib.hid f1; clear h1 f1))
      go_meet
      case rel => exact ⟨[], ρ, 0, H1, F1, HB, Lib.hid (by have := HD.out; omega)⟩
    · have b1 : decide (e ≤ tot) = false := by rw [decide_eq_false_iff_not]; exact hb
      have HB := Lib.hid (show (L.map Ent.c, tot) = begM (L.map Ent.c) tot d from by unfold begM; rw [if_neg (by have := HD.out; omega)])
      have HT := Lib.hid (show tot + d < 4611686018427387904 by have := HD.out; omega)
      go_wp2
      go_meet
      case rel => exact ⟨L, σ, tot, H, Lib.hid (Fr.refl _ _), HB, HT⟩
  case rest =>
  obtain ⟨L0, σ0, t0, H0, F0, HB, HT⟩ := hcut
  clear k t1 t2 t3 e1
  have hb := H0.out.ok.tb
  have hd := HD.out.1
  have hn := H0.out.n1
  obtain ⟨m, hm⟩ : ∃ m, m = L0.length := ⟨_, rfl⟩
  have h0 := H0.out.hs
  rw [← hm] at h0
  have k := h0.rd
  have kw := h0.wr
  obtain ⟨t1, ht1⟩ : ∃ t1, t1 = t0 + d := ⟨_, rfl⟩
  have e1 : IntKind.i64.wrap (t0 + d) = t1 := by rw [IntKind.wrap_i64, ht1]; have := HT.out; omega
  obtain ⟨w2, e2, r2, f2, s2⟩ := G.box_set h0 3 (.int .i64 t1) (smC Q m t1) rfl
  have hok := H0.out.ok.more (d := d) (by omega) HT.out
  rw [← ht1] at hok
  have H2 := Lib.hid (show SmAt w2 Q L0 t1 σ0 from by
    obtain ⟨R, hg, hl⟩ := H0.out.hg
    exact ⟨by rw [← hm]; exact r2, ⟨R, hg.fr f2 (fun e => H0.out.ne.1 e.symm), hl⟩, H0.out.ix.fr f2 (fun k hk e => (H0.out.ne.2 k hk).2 e), H0.out.n1, H0.out.ne, hok⟩)
  have F2 := Lib.hid (F0.out.trans (f2.mono (fun k hk => Or.inr (Or.inl hk))))
  have HT1 := Lib.hid (And.intro ht1 HT.out)
  clear r2 f2 s2 hok hb hn hd ht1
  go_upto_region 4 with (fail)
  clear e1 e2 k kw h0 hm
  go_cut [6] from 39 to 41 (fun s6 wx => ∃ z : Int, s6 = .int .i64 z ∧ Hid (SmAt wx Q L0 t1 σ0) ∧ Hid (Fr Q.F w wx) ∧ Hid ((∃ (j : Nat) (x : Ent), z = (j : Int) ∧ L0[j]? = some x ∧ x.k = s) ∨ (z = -1 ∧ ∀ x ∈ L0, x.k ≠ s)))
  case first =>
    by_cases hf : ∃ (j : Nat) (x : Ent), L0[j]? = some x ∧ x.k = s
    · obtain ⟨j, x, hj, rfl⟩ := hf
      have CF := Lib.hid (smfind_yes j x (by have := HD.out.2.2; unfold maxLen; omega) w2 H2.out hj)
      have HJ := Lib.hid hj
      clear hj
      go_wp2_with (go_at_call 28; ((with_reducible refine CF.out.mono ?_); rintro e' w3 ⟨rfl, b3⟩; have H3 := Lib.hid (H2.out.keep b3); have F3 := Lib.hid (F2.out.trans (Fr.of_below b3)); clear b3))
      go_meet
      case rel => exact ⟨(j : Int), rfl, H3, F3, Lib.hid (Or.inl ⟨j, x, rfl, HJ.out, rfl⟩)⟩
    · have hk : ∀ x ∈ L0, x.k ≠ s := fun x hx e => by
        obtain ⟨i, hi, e2⟩ := List.mem_iff_getElem.1 hx
        exact hf ⟨i, x, by rw [List.getElem?_eq_getElem hi, e2], e⟩
      have CF := Lib.hid (smfind_no s (by have := HD.out.2.2; unfold maxLen; omega) w2 H2.out hk)
      have HK := Lib.hid hk
      clear hf hk
      go_wp2_with (go_at_call 28; ((with_reducible refine CF.out.mono ?_); rintro e' w3 ⟨rfl, b3⟩; have H3 := Lib.hid (H2.out.keep b3); have F3 := Lib.hid (F2.out.trans (Fr.of_below b3)); clear b3))
      go_meet
      case rel => exact ⟨-1, rfl, H3, F3, Lib.hid (Or.inr ⟨rfl, HK.out⟩)⟩
  case rest =>
  obtain ⟨z, rfl, H3, F3, HZ⟩ := hcut
  clear H2 F2
  go_upto_if 43 with (fail)
  go_cut [6] from 43 to 46 (fun s6 wx => ∃ (j : Nat) (L1 : List Ent) (σ1 : KSt) (x : Ent), s6 = .int .i64 (j : Int) ∧ Hid (SmAt wx Q L1 t1 σ1) ∧ Hid (L1[j]? = some x) ∧ Hid (Fr Q.F w wx) ∧ Hid ((L1.map Ent.c, j) = preM Q.N.n (L0.map Ent.c) s) ∧ Hid (x.n ≤ t0))
  case first =>
    rcases HZ.out with ⟨j, x, rfl, hj, rfl⟩ | ⟨rfl, hk⟩
    · have HP := Lib.hid (pre_yes (n := Q.N.n) hj rfl (fun i y hi hk => H3.out.keyuni hj hi hk)).symm
      have HX := Lib.hid (H0.out.ok.bd x (List.mem_of_getElem? hj)).2.1
      have HJ := Lib.hid hj
      have b1 : decide ((j : Int) < 0) = false := by rw [decide_eq_false_iff_not]; omega
      clear hj
      go_wp2
      go_meet
      case rel => exact ⟨j, L0, σ0, x, rfl, H3, HJ, F3, Lib.hid HP.out, HX⟩
    · have hle := H0.out.le
      rcases Nat.lt_or_ge L0.length Q.N.n with hl | hl
      · have CE := Lib.hid (smenter_no s HD.out.2.2 _ H3.out hk hl)
        have HP := Lib.hid (fun i => (pre_short (n := Q.N.n) (i := i) hk hl).symm)
        have HTB := Lib.hid H0.out.ok.tb
        clear hk hle hl
        go_wp2_with (go_at_call 29; ((with_reducible refine CE.out.mono ?_); rintro e' w4 ⟨rfl, ⟨i, ρ, h4⟩, f4⟩; have H4 := Lib.hid h4; have F4 := Lib.hid (F3.out.trans f4); clear h4 f4))
        go_meet
        case rel => exact ⟨L0.length, _, ρ, ⟨s, 0, 0, i⟩, rfl, H4, Lib.hid (by simp), F4, Lib.hid (HP.out i), Lib.hid HTB.out.1⟩
      · obtain ⟨M, x, hMx⟩ : ∃ M x, L0 = M ++ [x] := by
          rcases List.eq_nil_or_concat L0 with e | ⟨M, x, e⟩
          · have := H0.out.n1; rw [e] at hl; simp at hl; omega
          · exact ⟨M, x, by rw [e, List.concat_eq_append]⟩
        have h3 := H3.out
        have h0 := H0.out
        rw [hMx] at h3 h0 hk hle hl
        have hlm : M.length + 1 = Q.N.n := by rw [List.length_append] at hl hle; simp only [List.length_singleton] at hl hle; omega
        have CE := Lib.hid (smenter_full s x HD.out.2.2 _ h3 hk hlm)
        have HP := Lib.hid (fun i => (pre_full (n := Q.N.n) (i := i) hk hlm).symm)
        have HX := Lib.hid (h0.ok.bd x (by simp)).2.1
        have HMX := Lib.hid hMx
        clear hk hle hl hlm h3 h0 hMx
        go_wp2_with (go_at_call 29; ((with_reducible refine CE.out.mono ?_); rintro e' w4 ⟨rfl, ⟨i, ρ, h4⟩, f4⟩; have H4 := Lib.hid h4; have F4 := Lib.hid (F3.out.trans f4); clear h4 f4))
        go_meet
        case rel => exact ⟨M.length, _, ρ, ⟨s, x.n, x.n, i⟩, rfl, H4, Lib.hid (by simp), F4, Lib.hid (by rw [HMX.out]; exact HP.out i), HX⟩
  case rest =>
  obtain ⟨j, L1, σ1, x, rfl, H5, HJ, F5, HP, HX⟩ := hcut
  clear H3 F3 HZ
  obtain ⟨R, hg, hl⟩ := H5.out.hg
  have hj := HJ.out
  have hjl := (List.getElem?_eq_some_iff.1 hj).1
  have hle := H5.out.le
  have hn := H5.out.n1
  have hjR : (L1 ++ R)[j]? = some x := by rw [List.getElem?_append_left hjl]; exact hj
  obtain ⟨v, hv⟩ : ∃ v, v = x.n + d := ⟨_, rfl⟩
  have hbx := H5.out.ok.bd x (List.mem_of_getElem? hj)
  have hvb : 0 ≤ v ∧ v ≤ t1 := by have h1 := HX.out; have h2 := HT1.out; have h3 := HD.out; omega
  have e1 : IntKind.i64.wrap (x.n + d) = v := by rw [IntKind.wrap_i64, hv]; have h1 := HX.out; have h2 := HT1.out; have h3 := HD.out; omega
  obtain ⟨m, hm⟩ : ∃ m, m = L1.length := ⟨_, rfl⟩
  have k := H5.out.hs.rd
  rw [← hm] at k
  have c0 := (H5.out.cell hj).1
  have gw := hg.wr
  have t2 : (0 : Int) ≤ (j : Int) := by omega
  have t3 : (j : Int) < (m : Int) := by omega
  have st := rws_store_one encE_len hg (i := j) (j := 0) (a := x) (a' := ⟨x.k, v, x.e, x.p⟩) (v := .int .i64 v) hjR rfl (by omega)
  simp only [Nat.add_zero] at st
  have hset : (L1 ++ R).set j ⟨x.k, v, x.e, x.p⟩ = L1.set j ⟨x.k, v, x.e, x.p⟩ ++ R := by rw [List.set_append_left _ _ hjl]
  rw [hset] at st
  have g6 := setObj_at (lt_of_block hg) (.cells (rws encE (L1.set j ⟨x.k, v, x.e, x.p⟩ ++ R)).toArray 74 (0, 0))
  have f6 := Fr.setObj (F := fun k => k = Q.g) (Fr.refl _ _) rfl (.cells (rws encE (L1.set j ⟨x.k, v, x.e, x.p⟩ ++ R)).toArray 74 (0, 0)) (w := wc)
  generalize setObj wc Q.g (.cells (rws encE (L1.set j ⟨x.k, v, x.e, x.p⟩ ++ R)).toArray 74 (0, 0)) = w6 at st g6 f6
  have f6 : Fr (fun k => k = Q.g) wc w6 := f6
  have hinc := H5.out.ok.inc (d := d) hj (by have := HD.out; omega) (by have h1 := HX.out; have h2 := HT1.out; omega)
  have hmap := inc_map (d := d) hj
  rw [← hv] at hinc hmap
  have hlen : (L1.set j ⟨x.k, v, x.e, x.p⟩).length = L1.length := List.length_set
  have H6 := Lib.hid (show SmAt w6 Q (L1.set j ⟨x.k, v, x.e, x.p⟩) t1 σ1 from ⟨by rw [hlen]; exact H5.out.hs.fr f6 H5.out.ne.1, ⟨R, g6, by rw [List.length_append, hlen, ← List.length_append]; exact hl⟩, H5.out.ix.fr f6 (fun k hk e => (H5.out.ne.2 k hk).1 e), H5.out.n1, H5.out.ne, hinc⟩)
  have F6 := Lib.hid (F5.out.trans (f6.mono (fun k hk => Or.inr (Or.inr hk))))
  have CR := Lib.hid (smrise_any j w6 H6.out (by rw [hlen]; exact hjl))
  have HR := Lib.hid (show (riseE (L1.set j ⟨x.k, v, x.e, x.p⟩) j).map Ent.c = riseM (incM (preM Q.N.n (L0.map Ent.c) s).1 (preM Q.N.n (L0.map Ent.c) s).2 d) (preM Q.N.n (L0.map Ent.c) s).2 from by rw [rise_map, hmap, ← HP.out])
  clear hg hl hj hjl hle hn hjR hv hbx hvb hm hset g6 f6 hinc hmap hlen
  go_wp2_with (go_at_call 30; ((with_reducible refine CR.out.mono ?_); rintro e' w7 ⟨rfl, h7, f7⟩; have H7 := Lib.hid h7; have F7 := Lib.hid (F6.out.trans f7); clear h7 f7))
  go_end0
  rw [← HB.out]
  refine ⟨rfl, ⟨_, σ1, ?_, HR.out⟩, F7.out⟩
  show SmAt w7 Q _ (t0 + d) σ1
  rw [← HT1.out.1]
  exact H7.out
/-- what isn't offered. -/
theorem smoffer_not (s : ByteArray) (hs : s.size ≤ maxLen) (d : Int) (hd : d < 1 ∨ 4611686018427387904 ≤ d ∨ 64 < s.size) (w : World) : Calls Try.prog 15 #[.pointer (some ⟨Q.s, 0, none⟩), .string s, .int .i64 d] w fun e w' => e = .returned (.tuple #[]) ∧ w = w' := by
  by_cases h1 : d < 1
  · have t1 : decide (d < (1 : Int)) = true := by rw [decide_eq_true_iff]; omega
    clear hd
    go_enter Try.func15, Try.ntmps15
    go_wp2
    refine bodyPost_ret (results_none rfl _ _ _) rfl ?_
    exact ⟨rfl, rfl⟩
  have t1 : decide (d < (1 : Int)) = false := by rw [decide_eq_false_iff_not]; omega
  by_cases h2 : 4611686018427387904 ≤ d
  · have t2 : decide ((4611686018427387904 : Int) ≤ d) = true := by rw [decide_eq_true_iff]; omega
    clear hd
    go_enter Try.func15, Try.ntmps15
    go_wp2
    refine bodyPost_ret (results_none rfl _ _ _) rfl ?_
    exact ⟨rfl, rfl⟩
  have t2 : decide ((4611686018427387904 : Int) ≤ d) = false := by rw [decide_eq_false_iff_not]; omega
  have h3 : 64 < s.size := by omega
  have t3 : decide ((64 : Int) < (s.size : Int)) = true := by rw [decide_eq_true_iff]; omega
  clear hd
  go_enter Try.func15, Try.ntmps15
  go_wp2
  refine bodyPost_ret (results_none rfl _ _ _) rfl ?_
  exact ⟨rfl, rfl⟩
theorem smoffer_nil (s : ByteArray) (d : Int) (w : World) : Calls Try.prog 15 #[.pointer none, .string s, .int .i64 d] w fun e w' => e = .returned (.tuple #[]) ∧ w = w' := by
  go_enter Try.func15, Try.ntmps15
  go_wp2
  refine bodyPost_ret (results_none rfl _ _ _) rfl ?_
  exact ⟨rfl, rfl⟩
/-- a summary, by its keys and counts. -/
def SmM (w : World) (Q : SmN) (M : List Tri) (tot : Int) : Prop := ∃ L σ, SmAt w Q L tot σ ∧ L.map Ent.c = M
theorem SmM.fr {M : List Tri} {F : Nat → Prop} (h : SmM W Q M tot) (hf : Fr F W w) (hF : ∀ k, Q.all k → ¬ F k) : SmM w Q M tot := by
  obtain ⟨L, σ, h1, h2⟩ := h
  exact ⟨L, σ, h1.fr hf hF, h2⟩
theorem SmM.keep {M : List Tri} (h : SmM W Q M tot) (hb : Below W.heap.size W w) : SmM w Q M tot := h.fr (F := fun _ => False) (Fr.of_below hb) (fun _ _ => id)
theorem smoffer_any {M : List Tri} (s : ByteArray) (hs : s.size ≤ maxLen) (d : Int) (w : World) (h : SmM w Q M tot) :
    Calls Try.prog 15 #[.pointer (some ⟨Q.s, 0, none⟩), .string s, .int .i64 d] w fun e w' => e = .returned (.tuple #[]) ∧ SmM w' Q (offerM Q.N.n M tot s d).1 (offerM Q.N.n M tot s d).2 ∧ Fr Q.F w w' := by
  by_cases hd : d < 1 ∨ 4611686018427387904 ≤ d ∨ 64 < s.size
  · have e : offerM Q.N.n M tot s d = (M, tot) := by unfold offerM; rw [if_pos hd]
    rw [e]
    exact (smoffer_not s hs d hd w).mono (fun e w' ⟨h1, h2⟩ => ⟨h1, by rw [← h2]; exact h, by rw [← h2]; exact Fr.refl _ _⟩)
  · obtain ⟨L, σ, h1, rfl⟩ := h
    exact (smoffer_in s (by omega) d (by omega) w h1).mono (fun e w' ⟨h2, ⟨L', σ', h3, h4⟩, h5⟩ => ⟨h2, ⟨L', σ', h3, h4⟩, h5⟩)
end
end Go.Proofs.Ytnpiimaapholiaa
