/- The laws of layer 21 (report), walked: streams of answers. -/
import Derived.Test.YtghhoofdbmgacaaDoorRpI
namespace Go.Proofs.YtghhoofdbmgacaaDoor
set_option linter.unusedSimpArgs false
set_option linter.unusedVariables false
open Go.ChangeShapes Go.WideShapes Go.ChangeAt Go.RowKit Go.Deep
/-- the head of a slice. -/
theorem slice_head {w : World} {A : Option Addr} {n c : Nat} {q : List Int} (h : RdI w .u8 A n c q) {t : Nat} (ht : t ≤ n) :
    ∃ A', (∀ W, (Instr.slice 39 (.slice A n c) none (some (.int .i64 (t : Int))) none).run Tryd.prog W = .ok (.slice A' t c) W) ∧ RdI w .u8 A' t c (q.take t) := by
  have hc := h.cap
  have hm := h.max
  refine ⟨if c = 0 then A else A.map (·.add (0 * 1)), fun W => ?_, ?_⟩
  · rw [run_slice_h W 39 A n c (by kernel_rfl) .i64 (t : Int) (by omega) (by omega)]
    show (Result.andThen _ _) = _
    rw [show (sizeOf (Tryd.prog.elem 39)).run Tryd.prog W = .ok 1 W from by kernel_rfl]
    simp [sliced]
  · have e : (if c = 0 then A else A.map (·.add (0 * 1))) = A := by
      split
      · rfl
      · cases A with
        | none => rfl
        | some a => simp [Addr.add]
    rw [e]
    refine ⟨by rw [List.length_take, h.len]; omega, by omega, hm, fun h0 => ?_, fun z hz => h.wf z (List.mem_of_mem_take hz)⟩
    obtain ⟨b, off, e1, hlt, hc2⟩ := h.at_ (by omega)
    exact ⟨b, off, e1, hlt, fun i hi => by rw [hc2 i (by omega)]; simp [List.getD, List.getElem?_take, hi]⟩
theorem said_ansI (i : Nat) {a : AV} (h : a.okA) (w : World) (ht : Tb w) : Calls Tryd.prog 10 #[.agg (sdC ((i : Int) % 2 + 1) 0 (vd a.v) a.r a.t 0 0 0 0 0 nilV 0)] w fun e w' => e = .returned (.string (strOfNums (linI i a))) ∧ Below w.heap.size w w' := by
  have hs : okS (ansS ((i : Int) % 2 + 1) (vd a.v) a.r a.t) := .inl ⟨opI i, vd_bd a.v, h.2.1, h.2.2, rfl⟩
  exact rsaid_any _ 0 (vd a.v) a.r a.t 0 0 0 0 0 0 [] hs none 0 0 w.heap.size w ht ⟨[], rfl, World.ownsRow_nil _ _ _ _⟩
set_option maxHeartbeats 8000000 in
theorem streams_law (w : World) (A : Option Addr) (n c : Nat) (ls : List AV) (A2 : Option Addr) (n2 c2 : Nat) (z2 : List Int) (hl : ls.length = n) (ha : AvAt w A c ls) (hok : ∀ a ∈ ls, a.okA) (hr2 : RdI w .u8 A2 n2 c2 z2) (ht : Tb w) :
    Calls Tryd.prog 4 #[.slice A n c, .slice A2 n2 c2] w fun e w' => e = .returned (.bool true) ∧ Below w.heap.size w w' := by
  have CF := Lib.hid (fit_any w ht)
  by_cases h1 : (50 : Int) < (n : Int)
  · clear hl ha hok hr2
    go_enter Tryd.func4, Tryd.ntmps4
    go_wp2_with (go_at_call 7; ((with_reducible refine CF.out.mono ?_); rintro e w1 ⟨rfl, b1⟩; have B1 := Lib.hid b1; clear b1))
    go_ret
    exact ⟨rfl, B1.out⟩
  by_cases h2 : (100 : Int) < (n2 : Int)
  · clear hl ha hok hr2
    go_enter Tryd.func4, Tryd.ntmps4
    go_wp2_with (go_at_call 7; ((with_reducible refine CF.out.mono ?_); rintro e w1 ⟨rfl, b1⟩; have B1 := Lib.hid b1; clear b1))
    go_ret
    exact ⟨rfl, B1.out⟩
  have hcp := ha.cap
  rw [hl] at hcp
  have hmx := ha.max
  unfold maxLen at hmx
  have HA := Lib.hid ha
  have HL := Lib.hid hl
  have HR2 := Lib.hid hr2
  have HT := Lib.hid ht
  have HOK := Lib.hid hok
  have HN5 := Lib.hid (show n ≤ 50 ∧ n2 ≤ 100 from by omega)
  have HBY2 := Lib.hid (rdI_hd hr2)
  have HL2 := Lib.hid hr2.len
  clear ha hl hok hr2 ht
  go_enter Tryd.func4, Tryd.ntmps4
  go_upto_region 8 with (go_at_call 7; ((with_reducible refine CF.out.mono ?_); rintro e w1 ⟨rfl, b1⟩; have B1 := Lib.hid b1; clear b1))
  go_loopg [5, 6, 27] n (fun k s5 s6 s27 wr => ∃ i : Nat, i ≤ n ∧ k = n - i ∧ s27 = .int .i64 (i : Int) ∧ Own wr w.heap.size s5 (strB ls i) ∧ s6 = .string (strOfNums (strL ls i)) ∧ Below w.heap.size w wr)
  case atStart => exact ⟨0, by omega, by omega, rfl, own_nil _ _, rfl, B1.out⟩
  case round =>
    obtain ⟨i, hi, hkk, rfl, ho, rfl, hb⟩ := hrel
    have HK := Lib.hid hkk
    have HO := Lib.hid ho
    have HB := Lib.hid hb
    have HSL := Lib.hid (show (strL ls i).length ≤ 3000000 from by have := strL_len HOK.out i; have := HN5.out; have := Nat.mul_le_mul_left 52001 (show i ≤ 50 by omega); omega)
    have HBL := Lib.hid (show (strB ls i).length ≤ 1100 from by rw [strB_length]; have := HN5.out; omega)
    clear hkk ho hb
    obtain ⟨s0, hs0⟩ : ∃ s, s = strOfNums (strL ls i) := ⟨_, rfl⟩
    have z0 : s0.size ≤ 3000000 := by rw [hs0, str_size]; exact HSL.out
    rw [← hs0]
    by_cases hin : i < n
    · have hil : i < ls.length := by rw [HL.out]; exact hin
      obtain ⟨g, off, e, hlt, c0, c1, c2'⟩ := (HA.out.below HB.out).row hil
      have hga : (ls.getD i ⟨0, 0, 0⟩) = ls[i] := by rw [List.getD_eq_getElem?_getD, List.getElem?_eq_getElem hil]; rfl
      have hoa := ok_getD HOK.out i
      rw [hga] at hoa
      obtain ⟨a, haa⟩ : ∃ a, a = ls[i] := ⟨_, rfl⟩
      rw [← haa] at c0 c1 c2' hoa hga
      obtain ⟨V, rem, ret⟩ := a
      subst e
      have HSB := Lib.hid (show strB ls (i + 1) = strB ls i ++ frmZ (ansZ ((i : Int) % 2 + 1) (vd V) rem ret) from by rw [strB, hga]; rfl)
      have HSLN := Lib.hid (show strL ls (i + 1) = strL ls i ++ (linI i ⟨V, rem, ret⟩ ++ [10]) from by rw [strL, hga])
      have HLI := Lib.hid (linI_len i hoa)
      have CS0 := Lib.hid (fun wx (hx : Below w.heap.size w wx) => said_ansI i hoa wx (HT.out.below hx))
      have CA0 := Lib.hid (fun wx => answered_any ((i : Int) % 2 + 1) (vd V) rem ret (opI i) (vd_bd V) hoa.2.1 hoa.2.2 wx)
      have HFB := Lib.hid (frmI_byt i ⟨V, rem, ret⟩)
      have hbd := vd_bd V
      have hmid := vd_mid V
      obtain ⟨x1, hx1⟩ : ∃ x, x = V.tmod 3 := ⟨_, rfl⟩
      have hvd : vd V = (x1 + 3).tmod 3 + 1 := by rw [hx1]; rfl
      obtain ⟨x2, hx2⟩ : ∃ x, x = x1 + 3 := ⟨_, rfl⟩
      rw [← hx2] at hvd
      obtain ⟨x3, hx3⟩ : ∃ x, x = x2.tmod 3 := ⟨_, rfl⟩
      rw [← hx3] at hvd
      obtain ⟨v, hv⟩ : ∃ v, v = vd V := ⟨_, rfl⟩
      have ex1 : V.tmod 3 = x1 := hx1.symm
      have ex2 : x1 + 3 = x2 := hx2.symm
      have ex3 : x2.tmod 3 = x3 := hx3.symm
      have ex4 : x3 + 1 = v := by rw [hv, hvd]
      rw [← hv] at hbd HSB CA0
      have ew2 : wrap64 x2 = x2 := by unfold wrap64; rw [← hx1] at hmid; omega
      have ew4 : wrap64 v = v := by unfold wrap64; omega
      obtain ⟨o1, ho1⟩ : ∃ x, x = (i : Int) % 2 := ⟨_, rfl⟩
      have eo1 : bits .and .i64 (i : Int) 1 = o1 := by rw [ho1]; exact i64_mask1 _
      obtain ⟨o, hoo⟩ : ∃ x, x = o1 + 1 := ⟨_, rfl⟩
      have eo : o1 + 1 = o := hoo.symm
      have hob : 1 ≤ o ∧ o ≤ 2 := by omega
      obtain ⟨sl, hsl⟩ : ∃ s, s = strOfNums (linI i ⟨V, rem, ret⟩) := ⟨_, rfl⟩
      have zl : sl.size ≤ 52000 := by rw [hsl, str_size]; exact HLI.out
      have HSS := Lib.hid (show s0 ++ (sl ++ (⟨#[10]⟩ : ByteArray)) = strOfNums (strL ls (i + 1)) from by
        rw [HSLN.out, hs0, hsl, show (⟨#[10]⟩ : ByteArray) = strOfNums [10] from by apply ByteArray.ext; rfl, str_append, str_append])
      have CS := Lib.hid (fun wx (hx : Below w.heap.size w wx) => show Calls Tryd.prog 10 #[.agg (sdC o 0 v rem ret 0 0 0 0 0 nilV 0)] wx (fun e w' => e = .returned (.string sl) ∧ Below wx.heap.size wx w') from by
        have h := CS0.out wx hx
        rw [← hsl] at h
        rw [hoo, ho1, hv]
        exact h)
      have CA := Lib.hid (fun wx => show Calls Tryd.prog 11 #[.int .i64 o, .agg (ansC v rem ret)] wx (fun e w' => ∃ v', e = .returned v' ∧ Own w' wx.heap.size v' (frmZ (ansZ o v rem ret)) ∧ Below wx.heap.size wx w') from by
        rw [hoo, ho1]
        exact CA0.out wx)
      have HFB2 := Lib.hid (show byt (frmZ (ansZ o v rem ret)) from by rw [hoo, ho1, hv]; exact HFB.out)
      have HFL := Lib.hid (show (frmZ (ansZ o v rem ret)).length = 22 from by rw [frm_length, ans_length])
      rw [← ho1, eo] at HSB
      have q1 : (9223372036854775807 < sl.size + 1) = False := eq_false (by omega)
      have q2 : (9223372036854775807 < s0.size + (sl.size + 1)) = False := eq_false (by omega)
      clear haa hga hlt hvd hx1 hx2 hx3 hv ho1 hoo hsl hs0 hoa hmid CS0 CA0
      go_upto_region 10 with (fail)
      obtain ⟨w2, hw2, hbk, hbl, hsz2⟩ := box_new wr (ansC V rem ret) 23
      change Code.wp _ _ _ _ (wr.alloc (.cells (ansC V rem ret) 23))
      rw [hw2]
      obtain ⟨b4, hb4⟩ : ∃ b4, b4 = wr.heap.size := ⟨_, rfl⟩
      rw [← hb4] at hbk hsz2 ⊢
      have HB4 := Lib.hid hb4
      have P2 := Lib.hid hbk
      have O2 := Lib.hid (HO.out.below hbl)
      have BL2 := Lib.hid (HB.out.trans (hbl.mono HB.out.size))
      have k2 := hbk.rd
      have q2' := hbk.wr
      have HOW := Lib.hid (show ∀ gg, u5.ownBlock = some gg → gg ≠ b4 from fun gg hg e => by have := (HO.out.lt gg hg).2; omega)
      clear hw2 hbk hbl hsz2 hb4 c0 c1 c2'
      go_upto_region 11 with (fail)
      have P4 := Lib.hid (show Blk (w2.setCell ⟨b4, 0, none⟩ (.int .i64 v)) b4 23 (ansC v rem ret) from by rw [setCell_obj P2.out]; exact setObj_at (lt_of_block P2.out) _)
      have FR4 := Lib.hid (fr_set (i := 0) (v := .int .i64 v) P2.out)
      obtain ⟨w4, hw4⟩ : ∃ w4, w4 = (w2.setCell ⟨b4, 0, none⟩ (.int .i64 v)) := ⟨_, rfl⟩
      rw [← hw4] at P4 FR4 ⊢
      have O4 := Lib.hid (O2.out.fr FR4.out (fun gg hg => HOW.out gg hg))
      have BL4 := Lib.hid (BL2.out.trans (FR4.out.below BL2.out.size (fun k hk => by have := HB4.out; have := HB.out.size; omega)))
      have k4 := P4.out.rd
      clear hw4 k2 q2'
      go_upto_region 13 with (first
        | (go_at_call 11; ((with_reducible refine (CA.out _).mono ?_); rintro e w5 ⟨v5, rfl, o5, b5⟩; obtain ⟨g5, c5, rfl, r5, _⟩ := own_rdx o5 HFB2.out 22 HFL.out; have R5 := Lib.hid r5; have P5 := Lib.hid (P4.out.keep b5); have O5 := Lib.hid (O4.out.below b5); have BL5 := Lib.hid (BL4.out.trans (b5.mono BL4.out.size)); clear o5 b5 r5))
        | (at_builtin; refine wpList_appI (by rfl) _ _ c5 (by rfl) (by rfl) (by rfl) O5.out R5.out (by have := HBL.out; omega) BL5.out.size ?_; intro v6 w6 o6 g6; have O6 := Lib.hid o6; have FR6 := Lib.hid (fr_row g6); have P6 := Lib.hid (P5.out.fr FR6.out (fun e => HOW.out _ e rfl)); have BL6 := Lib.hid (BL5.out.trans (FR6.out.below BL5.out.size (fun g hg => (O5.out.lt g hg).1))); clear o6 g6))
      have k6 := P6.out.rd
      clear k4
      go_upto_region 14 with (go_at_call 10; ((with_reducible refine (CS.out _ BL6.out).mono ?_); rintro e w7 ⟨rfl, b7⟩; have O7 := Lib.hid (O6.out.below b7); have BL7 := Lib.hid (BL6.out.trans (b7.mono BL6.out.size)); clear b7))
      go_wp2
      go_roundg (n - (i + 1))
      case measure => have := HK.out; omega
      case rel => exact ⟨i + 1, by omega, by omega, by go_num, by rw [HSB.out]; exact O7.out, by rw [HSS.out], BL7.out⟩
    · have hie : n = i := by omega
      subst hie
      obtain ⟨N, hN⟩ : ∃ N, N = 22 * n := ⟨_, rfl⟩
      have HNN := Lib.hid hN
      have hNb : (N : Int) ≤ 1100 := by have := HN5.out; omega
      obtain ⟨A5, c5, rfl, r5, _⟩ := own_rdx HO.out (strB_byt ls n) N (by rw [strB_length, hN])
      have R5 := Lib.hid r5
      have HS0 := Lib.hid hs0
      have hc5 := r5.cap
      have hm5 := r5.max
      unfold maxLen at hm5
      obtain ⟨K, hK⟩ : ∃ K, K = N - 1 := ⟨_, rfl⟩
      have HKK := Lib.hid hK
      have CS4 := Lib.hid (fun (A4 : Option Addr) (c4 : Nat) (wx : World) (hx : Below w.heap.size w wx) (h : RdI wx .u8 A4 K c4 ((strB ls n).take K)) => show Calls Tryd.prog 12 #[.slice A4 K c4] wx (fun e w' => (∃ (st : ByteArray) (t : Nat), e = .returned (.tuple #[.string st, .int .i64 (t : Int)]) ∧ (st.size ≤ 60000000 ∧ t ≤ 1100) ∧ (N = 0 ∨ (0 < N ∧ (t : Int) = (N : Int) - 22 ∧ st.size < s0.size))) ∧ Below wx.heap.size wx w') from
        (stream_any A4 K c4 _ wx (by have := HN5.out; have := HNN.out; have := HKK.out; omega) h (HT.out.below hx)).mono (fun e w' ⟨j3, t3, L3, he, p3, q3, b⟩ => by
          have hbt := byt_take (strB_byt ls n) K
          have g1 := stp_ok hbt p3
          have hlt : ((strB ls n).take K).length ≤ 1100 := by rw [List.length_take, strB_length]; have := HN5.out; omega
          have g2 := stp_len hbt p3 (by omega)
          refine ⟨⟨strOfNums L3, t3, he, ⟨by rw [str_size]; omega, by omega⟩, ?_⟩, b⟩
          by_cases hn0 : n = 0
          · exact .inl (by rw [HNN.out, hn0])
          · refine .inr ⟨by have := HNN.out; omega, ?_⟩
            obtain ⟨m, rfl⟩ : ∃ m, n = m + 1 := ⟨n - 1, by omega⟩
            have e1 : (strB ls (m + 1)).take K = strB ls m ++ (frmZ (ansI m (ls.getD m ⟨0, 0, 0⟩))).take 21 := by
              rw [strB, List.take_append, strB_length, List.take_of_length_le (by rw [strB_length, HKK.out, HNN.out]; omega)]
              congr 2
              rw [HKK.out, HNN.out]
              omega
            have s1 := strB_stp HOK.out m ((frmZ (ansI m (ls.getD m ⟨0, 0, 0⟩))).take 21)
            have s2 : stp (strB ls m ++ (frmZ (ansI m (ls.getD m ⟨0, 0, 0⟩))).take 21) (m + 1) = none := by
              refine stp_end s1 ?_
              rw [List.drop_left' (strB_length ls m)]
              exact cutI _ _
            rw [e1] at p3 q3
            have e3 := stp_uniq p3 q3 s1 s2
            subst e3
            have e4 := p3.symm.trans s1
            injection e4 with e4; injection e4 with e4 e5
            subst e4 e5
            refine ⟨by have := HNN.out; omega, ?_⟩
            rw [HS0.out, str_size, str_size, strL, List.length_append, List.length_append, List.length_singleton]
            omega))
      clear hN hK hs0 r5
      have HT2 := Lib.hid (HR2.out.below HB.out)
      by_cases h0 : n2 = 0
      · subst h0
        have hz2 : z2 = [] := List.length_eq_zero_iff.1 HL2.out
        subst hz2
        have TY := Lib.hid (HT2.out)
        have HYN := Lib.hid (show readZ (([] : List Int)) = none from head_none (.inl rfl))
        have HYB := Lib.hid (show byt (([] : List Int)) from (fun x hx => by cases hx))
        have HYL := Lib.hid (show (([] : List Int)).length ≤ 100 from by decide)
        have HJ := Lib.hid (strB_stp HOK.out n (([] : List Int)))
        have HJE := Lib.hid (show stp (strB ls n ++ (([] : List Int))) (n + 1) = none from by
          refine stp_end HJ.out ?_
          rw [List.drop_left' (strB_length ls n)]
          exact HYN.out)
        have HB12 := Lib.hid (show ∀ x ∈ strB ls n ++ (([] : List Int)), 0 ≤ x ∧ x ≤ 255 from fun x hx => (List.mem_append.1 hx).elim (strB_byt ls n x) (HYB.out x))
        obtain ⟨M, hM⟩ : ∃ M, M = (strB ls n ++ (([] : List Int))).length := ⟨_, rfl⟩
        have HLL := Lib.hid hM.symm
        have HMB := Lib.hid (show M ≤ 1200 from by rw [hM, List.length_append, strB_length]; have := HN5.out; have := HYL.out; omega)
        have CS3 := Lib.hid (fun (A3 : Option Addr) (c3 : Nat) (wx : World) (hx : Below w.heap.size w wx) (h : RdI wx .u8 A3 M c3 (strB ls n ++ (([] : List Int)))) => show Calls Tryd.prog 12 #[.slice A3 M c3] wx (fun e w' => e = .returned (.tuple #[.string s0, .int .i64 (N : Int)]) ∧ Below wx.heap.size wx w') from
          (stream_any A3 M c3 _ wx (by have := HMB.out; omega) h (HT.out.below hx)).mono (fun e w' ⟨j3, t3, L3, he, p3, q3, b⟩ => by
            have e3 := stp_uniq p3 q3 HJ.out HJE.out
            subst e3
            have e4 := p3.symm.trans HJ.out
            injection e4 with e4; injection e4 with e4 e5
            refine ⟨?_, b⟩
            rw [he, e5, HS0.out, e4, HNN.out]))
        clear hM
        go_upto_region 19 with (first
          | (at_builtin; refine wpList_appI (by rfl) _ _ c5 (by rfl) (by rfl) (by rfl) (own_nil _ wr.heap.size) R5.out (by have := HN5.out; have := HNN.out; simp; omega) (Nat.le_refl _) ?_; intro v6 w6 o6 g6; have O6 := Lib.hid o6; have F6 := Lib.hid (show Below wr.heap.size wr w6 from (fr_row g6).below (Nat.le_refl _) (fun g hg => by cases hg)); have T6 := Lib.hid (TY.out.below F6.out); clear o6 g6)
          | (at_builtin; refine wpList_appI (by rfl) _ _ c2 (by rfl) (by rfl) (by rfl) O6.out T6.out (by have := HN5.out; have := HYL.out; have := T6.out.len; rw [List.nil_append, strB_length]; omega) F6.out.size ?_; intro v7 w7 o7 g7; have F7 := Lib.hid (show Below wr.heap.size wr w7 from F6.out.trans ((fr_row g7).below F6.out.size (fun g hg => (O6.out.lt g hg).1))); rw [List.nil_append] at o7; obtain ⟨g', c', rfl, r7, _⟩ := own_rdx o7 HB12.out M HLL.out; have R7 := Lib.hid r7; have B7 := Lib.hid (HB.out.trans (F7.out.mono HB.out.size)); clear o7 g7 r7)
          | (go_at_call 12; ((with_reducible refine (CS3.out _ _ _ B7.out R7.out).mono ?_); rintro e w8 ⟨rfl, b8⟩; have B8 := Lib.hid (B7.out.trans (b8.mono B7.out.size)); have U8 := Lib.hid (R5.out.below (F7.out.trans (b8.mono F7.out.size))); clear b8)))
        obtain ⟨A', hsl, hr'⟩ := slice_head U8.out (show K ≤ N from by have := HKK.out; omega)
        have RK := Lib.hid hr'
        clear hr'
        have emx : max ((N : Int) - 1) 0 = (K : Int) := by have := HKK.out; omega
        go_upto_region 20 with (go_at_call 12; ((with_reducible refine (CS4.out _ _ _ B8.out RK.out).mono ?_); rintro e w9 ⟨⟨st, t, rfl, hst, hway⟩, b9⟩; have B9 := Lib.hid (B8.out.trans (b9.mono B8.out.size)); clear b9))
        obtain ⟨hst1, hst2⟩ := hst
        rcases hway with hway | ⟨hw1, hw2, hw3⟩
        · go_wp2
          go_ret
          exact ⟨rfl, B9.out⟩
        · go_wp2
          go_ret
          exact ⟨rfl, B9.out⟩
      · obtain ⟨d, off, rfl, _, hc⟩ := HT2.out.at_ (by omega)
        have cy := hc 0 (by omega)
        rw [Nat.add_zero] at cy
        obtain ⟨y0, hy0⟩ : ∃ y, y = z2.getD 0 0 := ⟨_, rfl⟩
        rw [← hy0] at cy
        have hpos : (0 : Int) < (n2 : Int) := by omega
        have HY0 := Lib.hid hy0
        clear hc hy0 h0
        by_cases hy : y0 = 168
        · have ty : (y0 == 168) = true := by simpa using hy
          subst hy
          have TY := Lib.hid (show RdI wr .u8 none 0 0 [] from rdI_none (by unfold maxLen; omega))
          have HYN := Lib.hid (show readZ (([] : List Int)) = none from head_none (.inl rfl))
          have HYB := Lib.hid (show byt (([] : List Int)) from (fun x hx => by cases hx))
          have HYL := Lib.hid (show (([] : List Int)).length ≤ 100 from by decide)
          have HJ := Lib.hid (strB_stp HOK.out n (([] : List Int)))
          have HJE := Lib.hid (show stp (strB ls n ++ (([] : List Int))) (n + 1) = none from by
            refine stp_end HJ.out ?_
            rw [List.drop_left' (strB_length ls n)]
            exact HYN.out)
          have HB12 := Lib.hid (show ∀ x ∈ strB ls n ++ (([] : List Int)), 0 ≤ x ∧ x ≤ 255 from fun x hx => (List.mem_append.1 hx).elim (strB_byt ls n x) (HYB.out x))
          obtain ⟨M, hM⟩ : ∃ M, M = (strB ls n ++ (([] : List Int))).length := ⟨_, rfl⟩
          have HLL := Lib.hid hM.symm
          have HMB := Lib.hid (show M ≤ 1200 from by rw [hM, List.length_append, strB_length]; have := HN5.out; have := HYL.out; omega)
          have CS3 := Lib.hid (fun (A3 : Option Addr) (c3 : Nat) (wx : World) (hx : Below w.heap.size w wx) (h : RdI wx .u8 A3 M c3 (strB ls n ++ (([] : List Int)))) => show Calls Tryd.prog 12 #[.slice A3 M c3] wx (fun e w' => e = .returned (.tuple #[.string s0, .int .i64 (N : Int)]) ∧ Below wx.heap.size wx w') from
            (stream_any A3 M c3 _ wx (by have := HMB.out; omega) h (HT.out.below hx)).mono (fun e w' ⟨j3, t3, L3, he, p3, q3, b⟩ => by
              have e3 := stp_uniq p3 q3 HJ.out HJE.out
              subst e3
              have e4 := p3.symm.trans HJ.out
              injection e4 with e4; injection e4 with e4 e5
              refine ⟨?_, b⟩
              rw [he, e5, HS0.out, e4, HNN.out]))
          clear hM
          go_upto_region 19 with (first
            | (at_builtin; refine wpList_appI (by rfl) _ _ c5 (by rfl) (by rfl) (by rfl) (own_nil _ wr.heap.size) R5.out (by have := HN5.out; have := HNN.out; simp; omega) (Nat.le_refl _) ?_; intro v6 w6 o6 g6; have O6 := Lib.hid o6; have F6 := Lib.hid (show Below wr.heap.size wr w6 from (fr_row g6).below (Nat.le_refl _) (fun g hg => by cases hg)); have T6 := Lib.hid (TY.out.below F6.out); clear o6 g6)
            | (at_builtin; refine wpList_appI (by rfl) _ _ 0 (by rfl) (by rfl) (by rfl) O6.out T6.out (by have := HN5.out; have := HYL.out; have := T6.out.len; rw [List.nil_append, strB_length]; omega) F6.out.size ?_; intro v7 w7 o7 g7; have F7 := Lib.hid (show Below wr.heap.size wr w7 from F6.out.trans ((fr_row g7).below F6.out.size (fun g hg => (O6.out.lt g hg).1))); rw [List.nil_append] at o7; obtain ⟨g', c', rfl, r7, _⟩ := own_rdx o7 HB12.out M HLL.out; have R7 := Lib.hid r7; have B7 := Lib.hid (HB.out.trans (F7.out.mono HB.out.size)); clear o7 g7 r7)
            | (go_at_call 12; ((with_reducible refine (CS3.out _ _ _ B7.out R7.out).mono ?_); rintro e w8 ⟨rfl, b8⟩; have B8 := Lib.hid (B7.out.trans (b8.mono B7.out.size)); have U8 := Lib.hid (R5.out.below (F7.out.trans (b8.mono F7.out.size))); clear b8)))
          obtain ⟨A', hsl, hr'⟩ := slice_head U8.out (show K ≤ N from by have := HKK.out; omega)
          have RK := Lib.hid hr'
          clear hr'
          have emx : max ((N : Int) - 1) 0 = (K : Int) := by have := HKK.out; omega
          go_upto_region 20 with (go_at_call 12; ((with_reducible refine (CS4.out _ _ _ B8.out RK.out).mono ?_); rintro e w9 ⟨⟨st, t, rfl, hst, hway⟩, b9⟩; have B9 := Lib.hid (B8.out.trans (b9.mono B8.out.size)); clear b9))
          obtain ⟨hst1, hst2⟩ := hst
          rcases hway with hway | ⟨hw1, hw2, hw3⟩
          · go_wp2
            go_ret
            exact ⟨rfl, B9.out⟩
          · go_wp2
            go_ret
            exact ⟨rfl, B9.out⟩
        · have ty : (y0 == 168) = false := by simpa using hy
          have TY := Lib.hid (HT2.out)
          have HYN := Lib.hid (show readZ (z2) = none from head_none (.inr (by rw [← HY0.out]; exact hy)))
          have HYB := Lib.hid (show byt (z2) from HBY2.out)
          have HYL := Lib.hid (show (z2).length ≤ 100 from by rw [HL2.out]; exact HN5.out.2)
          have HJ := Lib.hid (strB_stp HOK.out n (z2))
          have HJE := Lib.hid (show stp (strB ls n ++ (z2)) (n + 1) = none from by
            refine stp_end HJ.out ?_
            rw [List.drop_left' (strB_length ls n)]
            exact HYN.out)
          have HB12 := Lib.hid (show ∀ x ∈ strB ls n ++ (z2), 0 ≤ x ∧ x ≤ 255 from fun x hx => (List.mem_append.1 hx).elim (strB_byt ls n x) (HYB.out x))
          obtain ⟨M, hM⟩ : ∃ M, M = (strB ls n ++ (z2)).length := ⟨_, rfl⟩
          have HLL := Lib.hid hM.symm
          have HMB := Lib.hid (show M ≤ 1200 from by rw [hM, List.length_append, strB_length]; have := HN5.out; have := HYL.out; omega)
          have CS3 := Lib.hid (fun (A3 : Option Addr) (c3 : Nat) (wx : World) (hx : Below w.heap.size w wx) (h : RdI wx .u8 A3 M c3 (strB ls n ++ (z2))) => show Calls Tryd.prog 12 #[.slice A3 M c3] wx (fun e w' => e = .returned (.tuple #[.string s0, .int .i64 (N : Int)]) ∧ Below wx.heap.size wx w') from
            (stream_any A3 M c3 _ wx (by have := HMB.out; omega) h (HT.out.below hx)).mono (fun e w' ⟨j3, t3, L3, he, p3, q3, b⟩ => by
              have e3 := stp_uniq p3 q3 HJ.out HJE.out
              subst e3
              have e4 := p3.symm.trans HJ.out
              injection e4 with e4; injection e4 with e4 e5
              refine ⟨?_, b⟩
              rw [he, e5, HS0.out, e4, HNN.out]))
          clear hM hy
          go_upto_region 19 with (first
            | (at_builtin; refine wpList_appI (by rfl) _ _ c5 (by rfl) (by rfl) (by rfl) (own_nil _ wr.heap.size) R5.out (by have := HN5.out; have := HNN.out; simp; omega) (Nat.le_refl _) ?_; intro v6 w6 o6 g6; have O6 := Lib.hid o6; have F6 := Lib.hid (show Below wr.heap.size wr w6 from (fr_row g6).below (Nat.le_refl _) (fun g hg => by cases hg)); have T6 := Lib.hid (TY.out.below F6.out); clear o6 g6)
            | (at_builtin; refine wpList_appI (by rfl) _ _ c2 (by rfl) (by rfl) (by rfl) O6.out T6.out (by have := HN5.out; have := HYL.out; have := T6.out.len; rw [List.nil_append, strB_length]; omega) F6.out.size ?_; intro v7 w7 o7 g7; have F7 := Lib.hid (show Below wr.heap.size wr w7 from F6.out.trans ((fr_row g7).below F6.out.size (fun g hg => (O6.out.lt g hg).1))); rw [List.nil_append] at o7; obtain ⟨g', c', rfl, r7, _⟩ := own_rdx o7 HB12.out M HLL.out; have R7 := Lib.hid r7; have B7 := Lib.hid (HB.out.trans (F7.out.mono HB.out.size)); clear o7 g7 r7)
            | (go_at_call 12; ((with_reducible refine (CS3.out _ _ _ B7.out R7.out).mono ?_); rintro e w8 ⟨rfl, b8⟩; have B8 := Lib.hid (B7.out.trans (b8.mono B7.out.size)); have U8 := Lib.hid (R5.out.below (F7.out.trans (b8.mono F7.out.size))); clear b8)))
          obtain ⟨A', hsl, hr'⟩ := slice_head U8.out (show K ≤ N from by have := HKK.out; omega)
          have RK := Lib.hid hr'
          clear hr'
          have emx : max ((N : Int) - 1) 0 = (K : Int) := by have := HKK.out; omega
          go_upto_region 20 with (go_at_call 12; ((with_reducible refine (CS4.out _ _ _ B8.out RK.out).mono ?_); rintro e w9 ⟨⟨st, t, rfl, hst, hway⟩, b9⟩; have B9 := Lib.hid (B8.out.trans (b9.mono B8.out.size)); clear b9))
          obtain ⟨hst1, hst2⟩ := hst
          rcases hway with hway | ⟨hw1, hw2, hw3⟩
          · go_wp2
            go_ret
            exact ⟨rfl, B9.out⟩
          · go_wp2
            go_ret
            exact ⟨rfl, B9.out⟩
end Go.Proofs.YtghhoofdbmgacaaDoor
