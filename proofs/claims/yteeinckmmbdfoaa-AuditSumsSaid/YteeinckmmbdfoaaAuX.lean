/- The law AuditApart of layer 20 (audit), walked. -/
import Derived.Test.YteeinckmmbdfoaaAuW
import Derived.IntWalk
namespace Go.Proofs.Yteeinckmmbdfoaa
set_option linter.unusedSimpArgs false
set_option linter.unusedVariables false
set_option maxRecDepth 100000
open Go.ChangeShapes Go.WideShapes Go.ChangeAt Go.RowKit Go.Maps
open Ar (inR)
theorem set4 {w : World} {b : Nat} {t : TypeId} {c0 c1 c2 c3 : Value} (h : Blk w b t #[c0, c1, c2, c3]) (v0 v1 v2 v3 : Value) :
    ∃ w', (((w.setCell ⟨b, 0, none⟩ v0).setCell ⟨b, 1, none⟩ v1).setCell ⟨b, 2, none⟩ v2).setCell ⟨b, 3, none⟩ v3 = w' ∧ Blk w' b t #[v0, v1, v2, v3] ∧ Fr (fun k => k = b) w w' := by
  have hb := lt_of_block h
  refine ⟨_, rfl, ?_, ?_⟩
  · rw [setCell_obj h, setCell_in hb, setCell_in hb, setCell_in hb]
    exact setObj_at hb _
  · rw [setCell_obj h, setCell_in hb, setCell_in hb, setCell_in hb]
    exact Fr.setObj (F := fun k => k = b) (Fr.refl _ _) rfl _
theorem MV.more {len : Int} {l : List (Int × Int)} {v u : Int} (h : MV len l v) (g : MV (len + 1) l u) (h0 : 0 ≤ len) (hc : costs l) : v ≤ u := by
  rcases h with ⟨h1, h2⟩ | ⟨h1, h2⟩ <;> rcases g with ⟨g1, g2⟩ | ⟨g1, g2⟩
  · omega
  · rw [h2]; exact g2.nn
  · omega
  · exact h2.more g2 hc
theorem ofK_len (k : Who) (l : List TE) : (ofK k l).length ≤ l.length := List.length_filter_le _ _
theorem ofK_ofK (k : Who) (l : List TE) : ofK k (ofK k l) = ofK k l := by simp [ofK, List.filter_filter]
theorem who_bs {x y : Who} (h : x ≠ y) : (x.r == y.r) = false ∨ ((x.r == y.r) = true ∧ (x.s.toList == y.s.toList) = false) := by
  by_cases e : x.r = y.r
  · right
    refine ⟨by simp [e], beq_eq_false_iff_ne.2 (fun q => h (Who.ext e (toList_inj q)))⟩
  · exact .inl (by simp [e])
set_option maxHeartbeats 16000000 in
theorem auditapart_law (w : World) (A : Option Addr) (n c : Nat) (L : List Ent) (xr : Int) (xs : ByteArray) (xa xc a2 : Int) (hr : RdL w A n c 4 encEn L) (hok : ∀ e ∈ L, okEn e) (he : okEn ⟨xr, xs, xa, xc⟩) (h2 : inR a2) :
    Calls Try.prog 5 #[.slice A n c, .agg #[.int .i64 xr, .string xs, .int .i64 xa, .int .i64 xc], .int .i64 a2] w fun e w' => e = .returned (.bool true) ∧ Below w.heap.size w w' := by
  have hmx := hr.max
  unfold maxLen at hmx
  have hcp := hr.cap
  have HR := Lib.hid hr
  have HO := Lib.hid hok
  have HE := Lib.hid he
  clear hr hok h2 he
  obtain ⟨w0, hw0, k0, b0, s0⟩ := box_new w #[.int .i64 xr, .string xs, .int .i64 xa, .int .i64 xc] 29
  obtain ⟨bw, hbw⟩ : ∃ z, z = w.heap.size := ⟨_, rfl⟩
  have HBW := Lib.hid hbw
  rw [← hbw] at k0
  have K0 := Lib.hid k0
  have B0 := Lib.hid b0
  clear k0 b0 s0 hbw
  go_enter Try.func5, Try.ntmps5
  go_upto_region 3 with (go_at_call 7; ((with_reducible refine (lfit_any _).mono ?_); rintro e w1 ⟨rfl, b1⟩; have B1 := Lib.hid (auB B0.out b1); have K1 := Lib.hid (K0.out.keep b1); clear b1))
  rw [← HBW.out]
  clear hw0
  by_cases hn100 : 100 < n
  · have t100 : decide ((100 : Int) < (n : Int)) = true := by rw [decide_eq_true_iff]; omega
    clear hn100
    go_wp2
    go_ret
    exact ⟨rfl, B1.out⟩
  have t100 : decide ((100 : Int) < (n : Int)) = false := by rw [decide_eq_false_iff_not]; omega
  have HN := Lib.hid (show n ≤ 100 by omega)
  have CT := Lib.hid (tame_any A n c L w1 (HR.out.below B1.out) HO.out (by omega))
  clear hn100
  go_upto_region 6 with (go_at_call 8; ((with_reducible refine CT.out.mono ?_); rintro e w2 ⟨v, rfl, ov, b2⟩; have OV := Lib.hid ov; have B2 := Lib.hid (auB B1.out b2); have K2 := Lib.hid (K1.out.keep b2); clear ov b2))
  obtain ⟨T, hT⟩ : ∃ z, z = L.map tameE := ⟨_, rfl⟩
  have HT := Lib.hid (show OwT w2 w1.heap.size v T ∧ T.length = n ∧ okT T from by rw [hT]; exact ⟨OV.out, by rw [List.length_map]; exact HR.out.len, okT_tame L⟩)
  obtain ⟨A2, c2, hv, hcc, hcm, hAg⟩ := HT.out.1.slice
  rw [HT.out.2.1] at hv hcc
  have HTS := Lib.hid (show OwT w2 w1.heap.size (.slice A2 n c2) T from by rw [← hv]; exact HT.out.1)
  have HTB := Lib.hid (show ∀ g, (Value.slice A2 n c2).ownBlock = some g → g ≠ bw from fun g e q => by
    have h1 := HTS.out.base_le g e
    have h2 := lt_of_block K1.out
    omega)
  rw [hv]
  unfold maxLen at hcm
  have hnb : (n : Int) ≤ 100 := by have := HN.out; omega
  have kw2 := K2.out.rd
  clear hT hv hAg CT OV
  -- the entry that asks, tamed
  obtain ⟨w3, hw3, k3, b3, s3⟩ := box_new w2 #[.int .i64 xr, .string xs, .int .i64 xa, .int .i64 xc] 29
  have CT2 := Lib.hid (tame_any (some ⟨w2.heap.size, 0, none⟩) 1 1 [⟨xr, xs, xa, xc⟩] w3 ⟨rfl, Nat.le_refl _, by unfold maxLen; omega, fun _ => ⟨w2.heap.size, 0, rfl, lt_of_block k3, fun i a hi j hj => by
    have hi0 : i = 0 := by have := (List.getElem?_eq_some_iff.1 hi).1; simp at this; omega
    subst hi0
    simp at hi
    subst hi
    have := Blk.rd k3 j
    rw [show 0 + 0 * 4 + j = j by omega, this]
    match j with
    | 0 => rfl
    | 1 => rfl
    | 2 => rfl
    | 3 => rfl
    | j + 4 => omega⟩⟩ (fun e he => by rw [List.mem_singleton] at he; rw [he]; exact HE.out) (by omega))
  have K3 := Lib.hid (K2.out.keep b3)
  have B3 := Lib.hid (auB B2.out b3)
  have B23 := Lib.hid b3
  clear k3 b3 s3
  go_wp2_with (fail)
  refine CT2.out.mono ?_
  rintro e w4 ⟨v4, rfl, ov4, b4⟩
  have TE4 := Lib.hid (show OwT w4 w3.heap.size v4 [tameE ⟨xr, xs, xa, xc⟩] from ov4)
  obtain ⟨⟨kw, ta, tc⟩, hte⟩ : ∃ e, e = tameE ⟨xr, xs, xa, xc⟩ := ⟨_, rfl⟩
  have HTE := Lib.hid (show OwT w4 w3.heap.size v4 [⟨kw, ta, tc⟩] from by rw [hte]; exact ov4)
  obtain ⟨A5, c5, hv5, hcc5, hcm5, hAg5⟩ := HTE.out.slice
  obtain ⟨g5, rfl, hg5, hgl5⟩ := hAg5 (by simp)
  have hv5 : v4 = .slice (some ⟨g5, 0, none⟩) 1 c5 := hv5
  have HT5 := Lib.hid (show OwT w4 w3.heap.size (.slice (some ⟨g5, 0, none⟩) 1 c5) [⟨kw, ta, tc⟩] from by rw [← hv5]; exact HTE.out)
  rw [hv5]
  obtain ⟨g6, hg6, p0, p1, p2, p3⟩ := OwT.cells HT5.out rfl (i := 0) (e := ⟨kw, ta, tc⟩) rfl (Below.refl _ _)
  injection hg6 with hg6
  injection hg6 with hg6
  subst hg6
  simp only [Nat.zero_mul, Nat.zero_add] at p0 p1 p2 p3
  have K4 := Lib.hid (K3.out.keep b4)
  have B4 := Lib.hid (auB B3.out b4)
  have B24 := Lib.hid (auB B23.out b4)
  have k4w := K4.out.wr
  have k4r := K4.out.rd
  obtain ⟨w5, hw5, k5, f5⟩ := set4 K4.out (.int .i64 kw.r) (.string kw.s) (.int .i64 ta) (.int .i64 tc)
  have K5 := Lib.hid k5
  have B5 := Lib.hid (B4.out.trans (f5.below B4.out.size (fun g hg => by rw [hg, HBW.out]; exact Nat.le_refl _)))
  have HTS5 := Lib.hid (show OwT w5 w1.heap.size (.slice A2 n c2) T from (HTS.out.keep B24.out).fr f5 (fun g e q => HTB.out g e q))
  obtain ⟨len, hlen⟩ : ∃ z, z = a2 % 512 := ⟨_, rfl⟩
  have e1 : bits .and .i64 a2 511 = len := by rw [hlen]; exact i64_mask9 _
  have hlb : 0 ≤ len ∧ len ≤ 511 := by omega
  clear hlen hte hv5 hcc5 hcm5 hAg5 hg5 hgl5 ov4 b4 k5 f5 TE4 HTE
  go_upto_region 8 with (fail)
  clear e1 hw5 hw3 k4w k4r p0 p1 p2 p3 kw2
  have HWB := Lib.hid (show w.heap.size ≤ w5.heap.size from B5.out.size)
  go_wp2_with (fail)
  refine (lednew_any _).mono ?_
  rintro e w6 ⟨rfl, l6, b6⟩
  have L6 := Lib.hid l6
  have B56 := Lib.hid b6
  clear l6 b6
  go_wp2_with (fail)
  refine (lednew_any _).mono ?_
  rintro e w7 ⟨rfl, l7, b7⟩
  obtain ⟨ba, hba⟩ : ∃ z, z = w5.heap.size + 1 := ⟨_, rfl⟩
  obtain ⟨ma, hma⟩ : ∃ z, z = w5.heap.size := ⟨_, rfl⟩
  obtain ⟨bb, hbb⟩ : ∃ z, z = w6.heap.size + 1 := ⟨_, rfl⟩
  obtain ⟨mb, hmb⟩ : ∃ z, z = w6.heap.size := ⟨_, rfl⟩
  have LD7 := Lib.hid (show LD w w7 w5.heap.size ba ma 0 (fun _ => none) (fun _ => []) bb mb 0 (fun _ => none) (fun _ => []) from by
    have h3 : LedAt w6 ba ma 0 (fun _ => none) (fun _ => []) := by rw [hba, hma]; exact L6.out
    have h4 : LedAt w7 bb mb 0 (fun _ => none) (fun _ => []) := by rw [hbb, hmb]; exact l7
    have hs := B56.out.size
    have hlo : ∀ g, LedAll ba ma (fun _ => none) g → w5.heap.size ≤ g ∧ g < w6.heap.size := fun g hg => by
      have h5 := h3.lt g hg
      rcases hg with e | e | ⟨k, v, hv, _⟩
      · omega
      · omega
      · cases hv
    have hlb : ∀ g, LedAll bb mb (fun _ => none) g → w6.heap.size ≤ g := fun g hg => by
      rcases hg with e | e | ⟨k, v, hv, _⟩
      · omega
      · omega
      · cases hv
    exact ⟨⟨h3.keep b7, fun g hg => (hlo g hg).1, auB (auB B5.out B56.out) b7⟩, ⟨h4, fun g hg => Nat.le_trans hs (hlb g hg), auB (auB B5.out B56.out) b7⟩, fun g q r => by have h5 := (hlo g q).2; have h6 := hlb g r; omega⟩)
  have B57 := Lib.hid (auB B56.out b7)
  rw [← hba, ← hbb]
  have k7r := (K5.out.keep B57.out).rd
  clear hba hma hbb hmb L6 B56 l7 b7
  obtain ⟨w8, hw8, k8, b8, s8⟩ := box_new w7 #[.int .i64 kw.r, .string kw.s] 31
  obtain ⟨bx, hbx⟩ : ∃ z, z = w7.heap.size := ⟨_, rfl⟩
  have HBX := Lib.hid hbx
  rw [← hbx] at k8
  have K8 := Lib.hid k8
  have LD8 := Lib.hid (LD7.out.keep b8)
  have B58 := Lib.hid (auB B57.out b8)
  have NX8 := Lib.hid (show (∀ g, LedAll ba ma (fun _ => none) g → g ≠ bx) ∧ ∀ g, LedAll bb mb (fun _ => none) g → g ≠ bx from ⟨fun g hg e => by have := LD7.out.la.at_.lt g hg; omega, fun g hg e => by have := LD7.out.lb.at_.lt g hg; omega⟩)
  clear hbx k8 b8 s8
  go_upto_region 10 with (fail)
  rw [← HBX.out]
  clear hw8 k7r
  go_wp2
  go_loopg [35] n (fun kk si wq => ∃ (i ca cb : Nat) (Va Vb : VM) (Ga Gb : GM), i ≤ n ∧ Hid (kk = n - i) ∧ si = .int .i64 (i : Int) ∧ Hid (LD w wq w5.heap.size ba ma ca Va Ga bb mb cb Vb Gb) ∧ Hid (Hld Va Ga ca (T.take i) ∧ Hld Vb Gb cb (ofK kw (T.take i))) ∧ Hid (Below w5.heap.size w5 wq) ∧ Hid (Blk wq bx 31 #[.int .i64 kw.r, .string kw.s]) ∧ Hid ((∀ g, LedAll ba ma Va g → g ≠ bx) ∧ ∀ g, LedAll bb mb Vb g → g ≠ bx))
  case atStart => exact ⟨0, 0, 0, _, _, _, _, Nat.zero_le _, Lib.hid rfl, rfl, LD8, Lib.hid ⟨by rw [List.take_zero]; exact Hld.nil, by rw [List.take_zero]; exact Hld.nil⟩, B58, K8, NX8⟩
  case round =>
    obtain ⟨i, ca, cb, Va, Vb, Ga, Gb, hi, HK, rfl, HL, HH, BQ, KX, NX⟩ := hrel
    by_cases hin : i < n
    · obtain ⟨⟨ke, ea, ec⟩, ha⟩ : ∃ a, T[i]? = some a := ⟨_, List.getElem?_eq_getElem (by have := HT.out.2.1; omega)⟩
      have HTL := Lib.hid (show T.take (i + 1) = T.take i ++ [⟨ke, ea, ec⟩] from by rw [List.take_add_one, ha]; rfl)
      obtain ⟨g, rfl, q0, q1, q2, q3⟩ := OwT.cells HTS5.out HT.out.2.1.symm ha BQ.out
      dsimp only at q0 q1 q2 q3
      obtain ⟨w9, hw9, k9, b9, s9⟩ := box_new wr #[.int .i64 ke.r, .string ke.s, .int .i64 ea, .int .i64 ec] 29
      have LD9 := Lib.hid (HL.out.keep b9)
      have BQ9 := Lib.hid (auB BQ.out b9)
      have KX9 := Lib.hid (KX.out.keep b9)
      obtain ⟨bz, hbz⟩ : ∃ z, z = wr.heap.size := ⟨_, rfl⟩
      have HBZ := Lib.hid hbz
      rw [← hbz] at k9
      have K9 := Lib.hid k9
      have HBZL := Lib.hid (show (∀ g, LedAll ba ma Va g → g ≠ bz) ∧ (∀ g, LedAll bb mb Vb g → g ≠ bz) from ⟨fun g hg e => by have := HL.out.la.at_.lt g hg; omega, fun g hg e => by have := HL.out.lb.at_.lt g hg; omega⟩)
      have k9r := k9.rd
      have hi100 : i < 100 := by have := HN.out; omega
      have CA := Lib.hid (ledadd_any ke ea ec w9 LD9.out.la.at_ (by have := HH.out.1.c; rw [List.length_take] at this; omega) (by have := HH.out.1.len ke; rw [List.length_take] at this; omega))
      have HIN := Lib.hid hin
      clear ha hin k9 b9 s9 hcm hbz
      go_upto_region 13 with (fail)
      rw [← HBZ.out]
      clear q0 q1 q2 q3 hw9
      go_upto_region 14 with (go_at_call 10; ((with_reducible refine CA.out.mono ?_); rintro e wa ⟨rfl, v6, h6, f6, g6⟩; have LDA := Lib.hid (LD9.out.opA ⟨HWB.out, BQ9.out.size⟩ h6 f6 g6); have BQA := Lib.hid (BQ9.out.trans (f6.below BQ9.out.size (fun g hg => LD9.out.la.lo g hg))); have KXA := Lib.hid (KX9.out.fr f6 (fun e => NX.out.1 bx e rfl)); have KZA := Lib.hid (K9.out.fr f6 (fun e => HBZL.out.1 bz e rfl)); have NXA := Lib.hid (show ∀ g, LedAll ba ma (putV Va ke v6) g → g ≠ bx from fun g hg e => by rcases g6 g hg with q | q; exact NX.out.1 g q e; have := lt_of_block KX9.out; omega); clear h6 f6 g6))
      clear k9r CA
      have kza := KZA.out.rd
      have kwa := ((K5.out.keep B57.out)).rd
      clear kwa
      have KWA := Lib.hid (K5.out.keep BQA.out)
      have kwr := KWA.out.rd
      by_cases hk : ke = kw
      · subst hk
        have u1 : (ke.r == ke.r) = true := by simp
        have u2 : (ke.s.toList == ke.s.toList) = true := by simp
        have kxr := KXA.out.rd
        have CB := Lib.hid (ledadd_any ke ea ec wa LDA.out.lb.at_ (by have h1 := HH.out.2.c; have h2 := ofK_len ke (T.take i); have h3 : (T.take i).length ≤ i := List.length_take_le _ _; omega) (by have h1 := HH.out.2.len ke; have h2 := ofK_len ke (T.take i); have h3 : (T.take i).length ≤ i := List.length_take_le _ _; omega))
        go_wp2_with (go_at_call 10; ((with_reducible refine CB.out.mono ?_); rintro e wb ⟨rfl, v8, h8, f8, g8⟩; have LDB := Lib.hid (LDA.out.swap.opA ⟨HWB.out, BQA.out.size⟩ h8 f8 g8).swap; have BQB := Lib.hid (BQA.out.trans (f8.below BQA.out.size (fun g hg => LDA.out.lb.lo g hg))); have KXB := Lib.hid (KXA.out.fr f8 (fun e => NX.out.2 bx e rfl)); have NXB := Lib.hid (show ∀ g, LedAll bb mb (putV Vb ke v8) g → g ≠ bx from fun g hg e => by rcases g8 g hg with q | q; exact NX.out.2 g q e; have := lt_of_block KXA.out; omega); clear h8 f8 g8))
        go_roundg (n - (i + 1))
        case measure => have := HK.out; have := HIN.out; omega
        case rel => exact ⟨i + 1, _, _, _, _, _, _, HIN.out, Lib.hid rfl, by go_num, LDB, Lib.hid ⟨by rw [HTL.out]; exact HH.out.1.add ⟨ke, ea, ec⟩ v6, by rw [HTL.out, ofK, List.filter_append]; simp only [List.filter_cons, List.filter_nil, decide_true, if_true]; exact HH.out.2.add ⟨ke, ea, ec⟩ v8⟩, BQB, KXB, Lib.hid ⟨NXA.out, NXB.out⟩⟩
      · have HKN := Lib.hid hk
        rcases who_bs hk with u1 | ⟨u1, u2⟩
        all_goals
          clear hk
          go_wp2
          go_roundg (n - (i + 1))
          case measure => have := HK.out; have := HIN.out; omega
          case rel => exact ⟨i + 1, _, _, _, _, _, _, HIN.out, Lib.hid rfl, by go_num, LDA, Lib.hid ⟨by rw [HTL.out]; exact HH.out.1.add ⟨ke, ea, ec⟩ v6, by rw [HTL.out, ofK, List.filter_append]; have := HKN.out; simp only [List.filter_cons, List.filter_nil, this, decide_false, if_false, List.append_nil, Bool.false_eq_true]; exact HH.out.2⟩, BQA, KXA, Lib.hid ⟨NXA.out, NX.out.2⟩⟩
    · have hie : i = n := by omega
      have hfull : T.take i = T := List.take_of_length_le (by rw [HT.out.2.1]; omega)
      have HHF := Lib.hid (show Hld Va Ga ca T ∧ Gb kw = Ga kw from by
        have h1 := HH.out
        rw [hfull] at h1
        exact ⟨h1.1, by rw [h1.2.g, h1.1.g, ofK_ofK]⟩)
      have hix : ¬ (i : Int) < (n : Int) := by omega
      have HGK := Lib.hid (show costs (Ga kw) ∧ (Ga kw).length ≤ 1000 from ⟨HHF.out.1.costs HT.out.2.2 kw, by have h1 := HHF.out.1.len kw; have h2 := HN.out; have h3 := HT.out.2.1; omega⟩)
      have CM1 := Lib.hid (fun wx (h : Below wr.heap.size wr wx) => ledmost_len kw len ⟨hlb.1, by omega⟩ wx (HL.out.keep h).la.at_ HGK.out.1 HGK.out.2)
      have CM2 := Lib.hid (fun wx (h : Below wr.heap.size wr wx) => ledmost_len kw len ⟨hlb.1, by omega⟩ wx (HL.out.keep h).lb.at_ (by rw [HHF.out.2]; exact HGK.out.1) (by rw [HHF.out.2]; exact HGK.out.2))
      obtain ⟨l1, hl1⟩ : ∃ z, z = len + 1 := ⟨_, rfl⟩
      have el : IntKind.i64.wrap (len + 1) = l1 := by rw [hl1]; exact IntWalk.i64_in _ (by omega)
      have CM3 := Lib.hid (fun wx (h : Below wr.heap.size wr wx) => ledmost_len kw l1 ⟨by omega, by omega⟩ wx (HL.out.keep h).la.at_ HGK.out.1 HGK.out.2)
      obtain ⟨t1, ht1⟩ : ∃ z, z = sumIn 0 2000 (Ga kw) := ⟨_, rfl⟩
      obtain ⟨t2, ht2⟩ : ∃ z, z = sumIn 0 2000 (Gb kw) := ⟨_, rfl⟩
      have n34 : (t1 == t2) = true := by rw [ht1, ht2, HHF.out.2]; simp
      have CS1 := Lib.hid (fun wx (h : Below wr.heap.size wr wx) => show Calls Try.prog 12 #[.pointer (some ⟨ba, 0, none⟩), .agg #[.int .i64 kw.r, .string kw.s], .int .i64 0, .int .i64 2000] wx (fun e w' => e = .returned (.int .i64 t1) ∧ Below wx.heap.size wx w') from by rw [ht1]; exact ledsum_any kw 0 2000 wx (HL.out.keep h).la.at_ HGK.out.1 HGK.out.2)
      have CS2 := Lib.hid (fun wx (h : Below wr.heap.size wr wx) => show Calls Try.prog 12 #[.pointer (some ⟨bb, 0, none⟩), .agg #[.int .i64 kw.r, .string kw.s], .int .i64 0, .int .i64 2000] wx (fun e w' => e = .returned (.int .i64 t2) ∧ Below wx.heap.size wx w') from by rw [ht2]; exact ledsum_any kw 0 2000 wx (HL.out.keep h).lb.at_ (by rw [HHF.out.2]; exact HGK.out.1) (by rw [HHF.out.2]; exact HGK.out.2))
      have HL1 := Lib.hid hl1
      have SB := Lib.hid (fun wx (h : Below wr.heap.size wr wx) => show (∀ j, wx.cell? ⟨bx, j, none⟩ = (#[.int .i64 kw.r, .string kw.s] : Array Value)[j]?) from (Blk.keep KX.out h).rd)
      clear hfull hie ht1 ht2 hl1
      go_upto_region 17 with (fail)
      have D0 := Lib.hid (show Below wr.heap.size wr wr.drew from below_draws (Below.refl _ _) 1)
      have st := SB.out _ D0.out
      refine wp_region_held_drew (S := fun wx => (∀ j, wx.cell? ⟨bx, j, none⟩ = (#[.int .i64 kw.r, .string kw.s] : Array Value)[j]?)) (by kernel_rfl) st (fun hHeld => ?_)
      clear st
      refine wpAnyH_take (i := 0) (oi := ?_) (v := ?_) ?_ ?_ ?_ ?_ ?_ ?_ ?_ ?_
      rotate_left 2
      · simp only [List.getElem?_toArray, List.getElem?_cons_succ, List.getElem?_cons_zero]; rfl
      · kernel_rfl
      · kernel_rfl
      · kernel_rfl
      · exact fun _ _ _ h => h
      · refine Or.inl ⟨by rfl, ?_⟩
        intro w' hSw
        (try dsimp only at hSw)
        go_simp
        all_goals (with_reducible rfl)
      · assumption
      try simp only [Act.put, List.setIfInBounds_toArray, List.set_cons_zero, List.set_cons_succ]
      refine wpAnyH_take (i := 1) (oi := ?_) (v := ?_) ?_ ?_ ?_ ?_ ?_ ?_ ?_ ?_
      rotate_left 2
      · simp only [List.getElem?_toArray, List.getElem?_cons_succ, List.getElem?_cons_zero]; rfl
      · kernel_rfl
      · kernel_rfl
      · kernel_rfl
      · exact fun _ _ _ h => h
      · refine Or.inl ⟨by rfl, ?_⟩
        intro w' hSw
        (try dsimp only at hSw)
        go_simp
        all_goals (with_reducible rfl)
      · assumption
      try simp only [Act.put, List.setIfInBounds_toArray, List.set_cons_zero, List.set_cons_succ]
      refine wpAnyH_take (i := 2) (oi := ?_) (v := ?_) ?_ ?_ ?_ ?_ ?_ ?_ ?_ ?_
      rotate_left 2
      · simp only [List.getElem?_toArray, List.getElem?_cons_succ, List.getElem?_cons_zero]; rfl
      · kernel_rfl
      · kernel_rfl
      · kernel_rfl
      · exact fun _ _ _ h => h
      · refine Or.inl ⟨by rfl, ?_⟩
        intro w' hSw
        (try dsimp only at hSw)
        go_simp
        all_goals (with_reducible rfl)
      · assumption
      try simp only [Act.put, List.setIfInBounds_toArray, List.set_cons_zero, List.set_cons_succ]
      refine wpAnyH_take (i := 4) (oi := ?_) (v := ?_) ?_ ?_ ?_ ?_ ?_ ?_ ?_ ?_
      rotate_left 2
      · simp only [List.getElem?_toArray, List.getElem?_cons_succ, List.getElem?_cons_zero]; rfl
      · kernel_rfl
      · kernel_rfl
      · kernel_rfl
      · exact fun _ _ _ h => h
      · refine Or.inl ⟨by rfl, ?_⟩
        intro w' hSw
        (try dsimp only at hSw)
        go_simp
        all_goals (with_reducible rfl)
      · assumption
      try simp only [Act.put, List.setIfInBounds_toArray, List.set_cons_zero, List.set_cons_succ]
      refine wpAnyH_take (i := 5) (oi := ?_) (v := ?_) ?_ ?_ ?_ ?_ ?_ ?_ ?_ ?_
      rotate_left 2
      · simp only [List.getElem?_toArray, List.getElem?_cons_succ, List.getElem?_cons_zero]; rfl
      · kernel_rfl
      · kernel_rfl
      · kernel_rfl
      · exact fun _ _ _ h => h
      · refine Or.inl ⟨by rfl, ?_⟩
        intro w' hSw
        (try dsimp only at hSw)
        go_simp
        all_goals (with_reducible rfl)
      · assumption
      try simp only [Act.put, List.setIfInBounds_toArray, List.set_cons_zero, List.set_cons_succ]
      refine wpAnyH_take (i := 6) (oi := ?_) (v := ?_) ?_ ?_ ?_ ?_ ?_ ?_ ?_ ?_
      rotate_left 2
      · simp only [List.getElem?_toArray, List.getElem?_cons_succ, List.getElem?_cons_zero]; rfl
      · kernel_rfl
      · kernel_rfl
      · kernel_rfl
      · exact fun _ _ _ h => h
      · refine Or.inl ⟨by rfl, ?_⟩
        intro w' hSw
        (try dsimp only at hSw)
        go_simp
        all_goals (with_reducible rfl)
      · assumption
      try simp only [Act.put, List.setIfInBounds_toArray, List.set_cons_zero, List.set_cons_succ]
      refine wpAnyH_ready (rs := [3]) (by kernel_rfl) (by simp) ?_
      refine AllReadyH.cons (o := ?_) ?_ ?_ ?_
      rotate_left 1
      · simp only [List.getElem?_toArray, List.getElem?_cons_succ, List.getElem?_cons_zero]; rfl
      rotate_left 1
      · exact AllReadyH.nil
      intro K hK
      go_simp
      refine (CM1.out _ D0.out).mono ?_; rintro e z1 ⟨v1, hv1, rfl, d1⟩; have V1 := Lib.hid hv1; have D1 := Lib.hid (auB D0.out d1); clear hv1 d1
      refine hK.out _ _ (SB.out _ D1.out) (fun hHeld => ?_)
      clear hK K
      try simp only [Act.put, List.setIfInBounds_toArray, List.set_cons_zero, List.set_cons_succ]
      refine wpAnyH_ready (rs := [7]) (by kernel_rfl) (by simp) ?_
      refine AllReadyH.cons (o := ?_) ?_ ?_ ?_
      rotate_left 1
      · simp only [List.getElem?_toArray, List.getElem?_cons_succ, List.getElem?_cons_zero]; rfl
      rotate_left 1
      · exact AllReadyH.nil
      intro K hK
      go_simp
      refine (CM2.out _ D1.out).mono ?_; rintro e z2 ⟨v2, hv2, rfl, d2⟩; have n12 : (v1 == v2) = true := (by simp [V1.out.eq hv2 (fun f t => by rw [HHF.out.2])]); have D2 := Lib.hid (auB D1.out d2); clear hv2 d2
      refine hK.out _ _ (SB.out _ D2.out) (fun hHeld => ?_)
      clear hK K
      try simp only [Act.put, List.setIfInBounds_toArray, List.set_cons_zero, List.set_cons_succ]
      refine wpAnyH_take (i := 8) (oi := ?_) (v := ?_) ?_ ?_ ?_ ?_ ?_ ?_ ?_ ?_
      rotate_left 2
      · simp only [List.getElem?_toArray, List.getElem?_cons_succ, List.getElem?_cons_zero]; rfl
      · kernel_rfl
      · kernel_rfl
      · kernel_rfl
      · exact fun _ _ _ h => h
      · refine Or.inl ⟨by rfl, ?_⟩
        intro w' hSw
        (try dsimp only at hSw)
        go_simp
        all_goals (with_reducible rfl)
      · assumption
      try simp only [Act.put, List.setIfInBounds_toArray, List.set_cons_zero, List.set_cons_succ]
      refine wpAnyH_take (i := 9) (oi := ?_) (v := ?_) ?_ ?_ ?_ ?_ ?_ ?_ ?_ ?_
      rotate_left 2
      · simp only [List.getElem?_toArray, List.getElem?_cons_succ, List.getElem?_cons_zero]; rfl
      · kernel_rfl
      · kernel_rfl
      · kernel_rfl
      · exact fun _ _ _ h => h
      · refine Or.inl ⟨by rfl, ?_⟩
        intro w' hSw
        (try dsimp only at hSw)
        go_simp
        all_goals (with_reducible rfl)
      · assumption
      try simp only [Act.put, List.setIfInBounds_toArray, List.set_cons_zero, List.set_cons_succ]
      refine wpAnyH_take (i := 10) (oi := ?_) (v := ?_) ?_ ?_ ?_ ?_ ?_ ?_ ?_ ?_
      rotate_left 2
      · simp only [List.getElem?_toArray, List.getElem?_cons_succ, List.getElem?_cons_zero]; rfl
      · kernel_rfl
      · kernel_rfl
      · kernel_rfl
      · exact fun _ _ _ h => h
      · refine Or.inl ⟨by rfl, ?_⟩
        intro w' hSw
        (try dsimp only at hSw)
        go_simp
        all_goals (with_reducible rfl)
      · assumption
      try simp only [Act.put, List.setIfInBounds_toArray, List.set_cons_zero, List.set_cons_succ]
      refine wpAnyH_take (i := 11) (oi := ?_) (v := ?_) ?_ ?_ ?_ ?_ ?_ ?_ ?_ ?_
      rotate_left 2
      · simp only [List.getElem?_toArray, List.getElem?_cons_succ, List.getElem?_cons_zero]; rfl
      · kernel_rfl
      · kernel_rfl
      · kernel_rfl
      · exact fun _ _ _ h => h
      · refine Or.inl ⟨by rfl, ?_⟩
        intro w' hSw
        (try dsimp only at hSw)
        go_simp
        all_goals (with_reducible rfl)
      · assumption
      try simp only [Act.put, List.setIfInBounds_toArray, List.set_cons_zero, List.set_cons_succ]
      refine wpAnyH_take (i := 13) (oi := ?_) (v := ?_) ?_ ?_ ?_ ?_ ?_ ?_ ?_ ?_
      rotate_left 2
      · simp only [List.getElem?_toArray, List.getElem?_cons_succ, List.getElem?_cons_zero]; rfl
      · kernel_rfl
      · kernel_rfl
      · kernel_rfl
      · exact fun _ _ _ h => h
      · refine Or.inl ⟨by rfl, ?_⟩
        intro w' hSw
        (try dsimp only at hSw)
        go_simp
        all_goals (with_reducible rfl)
      · assumption
      try simp only [Act.put, List.setIfInBounds_toArray, List.set_cons_zero, List.set_cons_succ]
      refine wpAnyH_take (i := 14) (oi := ?_) (v := ?_) ?_ ?_ ?_ ?_ ?_ ?_ ?_ ?_
      rotate_left 2
      · simp only [List.getElem?_toArray, List.getElem?_cons_succ, List.getElem?_cons_zero]; rfl
      · kernel_rfl
      · kernel_rfl
      · kernel_rfl
      · exact fun _ _ _ h => h
      · refine Or.inl ⟨by rfl, ?_⟩
        intro w' hSw
        (try dsimp only at hSw)
        go_simp
        all_goals (with_reducible rfl)
      · assumption
      try simp only [Act.put, List.setIfInBounds_toArray, List.set_cons_zero, List.set_cons_succ]
      refine wpAnyH_ready (rs := [12]) (by kernel_rfl) (by simp) ?_
      refine AllReadyH.cons (o := ?_) ?_ ?_ ?_
      rotate_left 1
      · simp only [List.getElem?_toArray, List.getElem?_cons_succ, List.getElem?_cons_zero]; rfl
      rotate_left 1
      · exact AllReadyH.nil
      intro K hK
      go_simp
      refine (CS1.out _ D2.out).mono ?_; rintro e z3 ⟨rfl, d3⟩; have D3 := Lib.hid (auB D2.out d3); clear d3
      refine hK.out _ _ (SB.out _ D3.out) (fun hHeld => ?_)
      clear hK K
      try simp only [Act.put, List.setIfInBounds_toArray, List.set_cons_zero, List.set_cons_succ]
      refine wpAnyH_ready (rs := [15]) (by kernel_rfl) (by simp) ?_
      refine AllReadyH.cons (o := ?_) ?_ ?_ ?_
      rotate_left 1
      · simp only [List.getElem?_toArray, List.getElem?_cons_succ, List.getElem?_cons_zero]; rfl
      rotate_left 1
      · exact AllReadyH.nil
      intro K hK
      go_simp
      refine (CS2.out _ D3.out).mono ?_; rintro e z4 ⟨rfl, d4⟩; have D4 := Lib.hid (auB D3.out d4); clear d4
      refine hK.out _ _ (SB.out _ D4.out) (fun hHeld => ?_)
      clear hK K
      try simp only [Act.put, List.setIfInBounds_toArray, List.set_cons_zero, List.set_cons_succ]
      refine wpAnyH_take (i := 16) (oi := ?_) (v := ?_) ?_ ?_ ?_ ?_ ?_ ?_ ?_ ?_
      rotate_left 2
      · simp only [List.getElem?_toArray, List.getElem?_cons_succ, List.getElem?_cons_zero]; rfl
      · kernel_rfl
      · kernel_rfl
      · kernel_rfl
      · exact fun _ _ _ h => h
      · refine Or.inl ⟨by rfl, ?_⟩
        intro w' hSw
        (try dsimp only at hSw)
        go_simp
        all_goals (with_reducible rfl)
      · assumption
      try simp only [Act.put, List.setIfInBounds_toArray, List.set_cons_zero, List.set_cons_succ]
      refine wpAnyH_take (i := 17) (oi := ?_) (v := ?_) ?_ ?_ ?_ ?_ ?_ ?_ ?_ ?_
      rotate_left 2
      · simp only [List.getElem?_toArray, List.getElem?_cons_succ, List.getElem?_cons_zero]; rfl
      · kernel_rfl
      · kernel_rfl
      · kernel_rfl
      · exact fun _ _ _ h => h
      · refine Or.inl ⟨by rfl, ?_⟩
        intro w' hSw
        (try dsimp only at hSw)
        go_simp
        all_goals (with_reducible rfl)
      · assumption
      try simp only [Act.put, List.setIfInBounds_toArray, List.set_cons_zero, List.set_cons_succ]
      refine wpAnyH_take (i := 18) (oi := ?_) (v := ?_) ?_ ?_ ?_ ?_ ?_ ?_ ?_ ?_
      rotate_left 2
      · simp only [List.getElem?_toArray, List.getElem?_cons_succ, List.getElem?_cons_zero]; rfl
      · kernel_rfl
      · kernel_rfl
      · kernel_rfl
      · exact fun _ _ _ h => h
      · refine Or.inl ⟨by rfl, ?_⟩
        intro w' hSw
        (try dsimp only at hSw)
        go_simp
        all_goals (with_reducible rfl)
      · assumption
      try simp only [Act.put, List.setIfInBounds_toArray, List.set_cons_zero, List.set_cons_succ]
      refine wpAnyH_take (i := 19) (oi := ?_) (v := ?_) ?_ ?_ ?_ ?_ ?_ ?_ ?_ ?_
      rotate_left 2
      · simp only [List.getElem?_toArray, List.getElem?_cons_succ, List.getElem?_cons_zero]; rfl
      · kernel_rfl
      · kernel_rfl
      · kernel_rfl
      · exact fun _ _ _ h => h
      · refine Or.inl ⟨by rfl, ?_⟩
        intro w' hSw
        (try dsimp only at hSw)
        go_simp
        all_goals (with_reducible rfl)
      · assumption
      try simp only [Act.put, List.setIfInBounds_toArray, List.set_cons_zero, List.set_cons_succ]
      refine wpAnyH_take (i := 20) (oi := ?_) (v := ?_) ?_ ?_ ?_ ?_ ?_ ?_ ?_ ?_
      rotate_left 2
      · simp only [List.getElem?_toArray, List.getElem?_cons_succ, List.getElem?_cons_zero]; rfl
      · kernel_rfl
      · kernel_rfl
      · kernel_rfl
      · exact fun _ _ _ h => h
      · refine Or.inl ⟨by rfl, ?_⟩
        intro w' hSw
        (try dsimp only at hSw)
        go_simp
        all_goals (with_reducible rfl)
      · assumption
      try simp only [Act.put, List.setIfInBounds_toArray, List.set_cons_zero, List.set_cons_succ]
      refine wpAnyH_take (i := 21) (oi := ?_) (v := ?_) ?_ ?_ ?_ ?_ ?_ ?_ ?_ ?_
      rotate_left 2
      · simp only [List.getElem?_toArray, List.getElem?_cons_succ, List.getElem?_cons_zero]; rfl
      · kernel_rfl
      · kernel_rfl
      · kernel_rfl
      · exact fun _ _ _ h => h
      · refine Or.inl ⟨by rfl, ?_⟩
        intro w' hSw
        (try dsimp only at hSw)
        go_simp
        all_goals (with_reducible rfl)
      · assumption
      try simp only [Act.put, List.setIfInBounds_toArray, List.set_cons_zero, List.set_cons_succ]
      refine wpAnyH_take (i := 23) (oi := ?_) (v := ?_) ?_ ?_ ?_ ?_ ?_ ?_ ?_ ?_
      rotate_left 2
      · simp only [List.getElem?_toArray, List.getElem?_cons_succ, List.getElem?_cons_zero]; rfl
      · kernel_rfl
      · kernel_rfl
      · kernel_rfl
      · exact fun _ _ _ h => h
      · refine Or.inl ⟨by rfl, ?_⟩
        intro w' hSw
        (try dsimp only at hSw)
        go_simp
        all_goals (with_reducible rfl)
      · assumption
      try simp only [Act.put, List.setIfInBounds_toArray, List.set_cons_zero, List.set_cons_succ]
      refine wpAnyH_take (i := 24) (oi := ?_) (v := ?_) ?_ ?_ ?_ ?_ ?_ ?_ ?_ ?_
      rotate_left 2
      · simp only [List.getElem?_toArray, List.getElem?_cons_succ, List.getElem?_cons_zero]; rfl
      · kernel_rfl
      · kernel_rfl
      · kernel_rfl
      · exact fun _ _ _ h => h
      · refine Or.inl ⟨by rfl, ?_⟩
        intro w' hSw
        (try dsimp only at hSw)
        go_simp
        all_goals (with_reducible rfl)
      · assumption
      try simp only [Act.put, List.setIfInBounds_toArray, List.set_cons_zero, List.set_cons_succ]
      refine wpAnyH_take (i := 25) (oi := ?_) (v := ?_) ?_ ?_ ?_ ?_ ?_ ?_ ?_ ?_
      rotate_left 2
      · simp only [List.getElem?_toArray, List.getElem?_cons_succ, List.getElem?_cons_zero]; rfl
      · kernel_rfl
      · kernel_rfl
      · kernel_rfl
      · exact fun _ _ _ h => h
      · refine Or.inl ⟨by rfl, ?_⟩
        intro w' hSw
        (try dsimp only at hSw)
        go_simp
        all_goals (with_reducible rfl)
      · assumption
      try simp only [Act.put, List.setIfInBounds_toArray, List.set_cons_zero, List.set_cons_succ]
      refine wpAnyH_take (i := 26) (oi := ?_) (v := ?_) ?_ ?_ ?_ ?_ ?_ ?_ ?_ ?_
      rotate_left 2
      · simp only [List.getElem?_toArray, List.getElem?_cons_succ, List.getElem?_cons_zero]; rfl
      · kernel_rfl
      · kernel_rfl
      · kernel_rfl
      · exact fun _ _ _ h => h
      · refine Or.inl ⟨by rfl, ?_⟩
        intro w' hSw
        (try dsimp only at hSw)
        go_simp
        all_goals (with_reducible rfl)
      · assumption
      try simp only [Act.put, List.setIfInBounds_toArray, List.set_cons_zero, List.set_cons_succ]
      refine wpAnyH_ready (rs := [22]) (by kernel_rfl) (by simp) ?_
      refine AllReadyH.cons (o := ?_) ?_ ?_ ?_
      rotate_left 1
      · simp only [List.getElem?_toArray, List.getElem?_cons_succ, List.getElem?_cons_zero]; rfl
      rotate_left 1
      · exact AllReadyH.nil
      intro K hK
      go_simp
      refine (CM1.out _ D4.out).mono ?_; rintro e z5 ⟨v3, hv3, rfl, d5⟩; have V3 := Lib.hid hv3; have D5 := Lib.hid (auB D4.out d5); clear hv3 d5
      refine hK.out _ _ (SB.out _ D5.out) (fun hHeld => ?_)
      clear hK K
      try simp only [Act.put, List.setIfInBounds_toArray, List.set_cons_zero, List.set_cons_succ]
      refine wpAnyH_ready (rs := [27]) (by kernel_rfl) (by simp) ?_
      refine AllReadyH.cons (o := ?_) ?_ ?_ ?_
      rotate_left 1
      · simp only [List.getElem?_toArray, List.getElem?_cons_succ, List.getElem?_cons_zero]; rfl
      rotate_left 1
      · exact AllReadyH.nil
      intro K hK
      go_simp
      refine (CM3.out _ D5.out).mono ?_; rintro e z6 ⟨v5, hv5, rfl, d6⟩; have n56 : decide (v3 ≤ v5) = true := (by rw [decide_eq_true_iff]; exact V3.out.more (by rw [← HL1.out]; exact hv5) hlb.1 HGK.out.1); have D6 := Lib.hid (auB D5.out d6); clear hv5 d6
      refine hK.out _ _ (SB.out _ D6.out) (fun hHeld => ?_)
      clear hK K
      try simp only [Act.put, List.setIfInBounds_toArray, List.set_cons_zero, List.set_cons_succ]
      refine wpAnyH_take (i := 28) (oi := ?_) (v := ?_) ?_ ?_ ?_ ?_ ?_ ?_ ?_ ?_
      rotate_left 2
      · simp only [List.getElem?_toArray, List.getElem?_cons_succ, List.getElem?_cons_zero]; rfl
      · kernel_rfl
      · kernel_rfl
      · kernel_rfl
      · exact fun _ _ _ h => h
      · refine Or.inl ⟨by rfl, ?_⟩
        intro w' hSw
        (try dsimp only at hSw)
        go_simp
        all_goals (with_reducible rfl)
      · assumption
      try simp only [Act.put, List.setIfInBounds_toArray, List.set_cons_zero, List.set_cons_succ]
      refine wpAnyH_take (i := 29) (oi := ?_) (v := ?_) ?_ ?_ ?_ ?_ ?_ ?_ ?_ ?_
      rotate_left 2
      · simp only [List.getElem?_toArray, List.getElem?_cons_succ, List.getElem?_cons_zero]; rfl
      · kernel_rfl
      · kernel_rfl
      · kernel_rfl
      · exact fun _ _ _ h => h
      · refine Or.inl ⟨by rfl, ?_⟩
        intro w' hSw
        (try dsimp only at hSw)
        go_simp
        all_goals (with_reducible rfl)
      · assumption
      try simp only [Act.put, List.setIfInBounds_toArray, List.set_cons_zero, List.set_cons_succ]
      refine wpAnyH_take (i := 30) (oi := ?_) (v := ?_) ?_ ?_ ?_ ?_ ?_ ?_ ?_ ?_
      rotate_left 2
      · simp only [List.getElem?_toArray, List.getElem?_cons_succ, List.getElem?_cons_zero]; rfl
      · kernel_rfl
      · kernel_rfl
      · kernel_rfl
      · exact fun _ _ _ h => h
      · refine Or.inl ⟨by rfl, ?_⟩
        intro w' hSw
        (try dsimp only at hSw)
        go_simp
        all_goals (with_reducible rfl)
      · assumption
      try simp only [Act.put, List.setIfInBounds_toArray, List.set_cons_zero, List.set_cons_succ]
      refine wpAnyH_done (by kernel_rfl) ?_ _
      clear hHeld n12 n34 n56
      go_wp2
      go_ret
      exact ⟨rfl, HL.out.la.bl.trans (D6.out.mono HL.out.la.bl.size)⟩
end Go.Proofs.Yteeinckmmbdfoaa
