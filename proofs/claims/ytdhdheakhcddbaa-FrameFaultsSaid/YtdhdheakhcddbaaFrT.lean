/- The laws of layer 13 (frame), walked: faults. -/
import Derived.Test.YtdhdheakhcddbaaFrR
namespace Go.Proofs.Ytdhdheakhcddbaa
open Go.ChangeShapes Go.WideShapes Go.ChangeAt Go.RowKit
/-- a byte of a row of the call's own is stored. -/
theorem own_set {w : World} {B g n c : Nat} {z : List Int} (h : Own w B (.slice (some ⟨g, 0, none⟩) n c) z) (hn : z.length = n) (a : Nat) (ha : a < n) (x : Int) :
    Own (w.setCell ⟨g, a, none⟩ (.int .u8 x)) B (.slice (some ⟨g, 0, none⟩) n c) (z.set a x) ∧ w.frozen? ⟨g, a, none⟩ = false ∧ (∃ v, w.cell? ⟨g, a, none⟩ = some v) ∧ Fr (fun k => k = g) w (w.setCell ⟨g, a, none⟩ (.int .u8 x)) := by
  subst hn
  rcases h.2 with ⟨e, _⟩ | ⟨g', cap, cur, e, hb, hg, hnc, hcm, hcs, ht⟩
  · cases e
  · injection e with e1 e2 e3
    injection e1 with e1; injection e1 with e1
    subst e1
    subst e3
    have hl := lt_of_block hg
    have hac : a < cur.size := by rw [hcs]; omega
    refine ⟨⟨by simp, .inr ⟨g, c, cur.setIfInBounds a (.int .u8 x), by simp, hb, ?_, by simpa using hnc, hcm, by simpa using hcs, ?_⟩⟩, blk_free hg, ⟨cur[a], by rw [blk_cell hg]; exact Array.getElem?_eq_getElem hac⟩, ?_⟩
    · rw [setCell_obj hg]; exact setObj_at hl _
    · simp only [Array.toList_setIfInBounds, Nat.mul_one, List.length_set] at ht ⊢
      rw [List.take_set, ht, List.map_set]
    · rw [setCell_obj hg]
      exact Fr.setObj (F := fun k => k = g) (Fr.refl _ _) rfl _
theorem getD_set_ne {z : List Int} {a i : Nat} {x : Int} (h : i ≠ a) : (z.set a x).getD i 0 = z.getD i 0 := by
  simp [List.getD, List.getElem?_set, Ne.symm h]
theorem getD_set_at {z : List Int} {a : Nat} {x : Int} (h : a < z.length) : (z.set a x).getD a 0 = x := by
  simp [List.getD, h]
/-- of a request whose byte a is another one. -/
theorem spoiled {q : Req} {a : Nat} {x : Int} (h : rightP q 9) (ha : a < (encZ q).length) :
    (∀ i, i ≤ a → parseZ (((encZ q).set a x).take i) 9 = (req0, 0, 0)) ∧ (∃ p m, parseZ (((encZ q).set a x).take (a + 1)) 9 = (p, m, fltZ (((encZ q).set a x).take (a + 1)) 9 a)) := by
  refine ⟨fun i hi => ?_, ?_⟩
  · refine parse_all ?_
    have hl : (((encZ q).set a x).take i).length = i := by rw [List.length_take, List.length_set]; omega
    rw [hl]
    refine clean_same (fun k hk => ?_) (enc_clean (by omega) h i (by omega))
    rw [getD_take hk, getD_set_ne (by omega)]
  · have hl : (((encZ q).set a x).take (a + 1)).length = a + 1 := by rw [List.length_take, List.length_set]; omega
    have hc : cleanZ (((encZ q).set a x).take (a + 1)) 9 a := clean_same (fun k hk => by rw [getD_take (by omega), getD_set_ne (by omega)]) (enc_clean (by omega) h a ha)
    rw [parse_clean a (by omega) hc, scan_step (by omega)]
    by_cases hf : fltZ (((encZ q).set a x).take (a + 1)) 9 a ≠ 0
    · rw [if_pos hf]; exact ⟨_, _, rfl⟩
    · rw [if_neg hf]
      have hf0 : fltZ (((encZ q).set a x).take (a + 1)) 9 a = 0 := by simpa using hf
      by_cases hw : wholeAt (((encZ q).set a x).take (a + 1)) a
      · rw [if_pos hw, hf0]; exact ⟨_, _, rfl⟩
      · rw [if_neg hw, hl, Nat.sub_self, scanZ, hf0]; exact ⟨_, _, rfl⟩
theorem byt_set {z : List Int} (h : byt z) {a : Nat} {x : Int} (hx : 0 ≤ x ∧ x ≤ 255) : byt (z.set a x) := fun y hy => by
  rcases List.mem_or_eq_of_mem_set hy with h1 | rfl
  · exact h y h1
  · exact hx
theorem own_base0 {w : World} {B g n c : Nat} {z : List Int} (h : Own w B (.slice (some ⟨g, 0, none⟩) n c) z) : B ≤ g := (h.lt g rfl).1
theorem spoiled_at {z : List Int} {a : Nat} {x : Int} (ha : a < z.length) : ((z.set a x).take (a + 1)).getD a 0 = x := by
  rw [getD_take (by omega), getD_set_at ha]
set_option maxHeartbeats 8000000 in
set_option maxRecDepth 100000 in
theorem faults_law (w : World) (o r c k : Int) (s : ByteArray) (at0 : Int) (x0 : Nat) (hq : ReqOK o r c k s) (hat : -9223372036854775808 ≤ at0 ∧ at0 ≤ 9223372036854775807) (hx : x0 < 256) :
    Calls Try.prog 8 #[reqV o r c s k, .int .i64 at0, .int .u8 (x0 : Int)] w fun e w' => e = .returned (.bool true) ∧ Below w.heap.size w w' := by
  obtain ⟨_, _, hc, _, hs⟩ := hq
  obtain ⟨x, hxe⟩ : ∃ x : Int, x = (x0 : Int) := ⟨_, rfl⟩
  rw [← hxe]
  have hxb : 0 ≤ x ∧ x ≤ 255 := by omega
  clear hx hxe
  have CL := Lib.hid (fun w => light_any o r c k s w hs)
  have CR := Lib.hid (fun w => rright_any o r c k 9 s w hs)
  have HQC := Lib.hid hc
  clear hs hc
  have BOX := Lib.hid (fun w => box_new w (reqC o r c s k) 24)
  rcases Nat.lt_or_ge 300 s.size with hl | hl
  · have C1 := Lib.hid (fun w => (CL.out w).2 (by omega))
    go_enter Try.func8, Try.ntmps8
    go_upto_region 1 with (fail)
    obtain ⟨w1, hw1, hbk, hbl, hsz1⟩ := BOX.out w
    change Code.wp _ _ _ _ (w.alloc (.cells (reqC o r c s k) 24))
    rw [hw1]
    obtain ⟨b0, hb0⟩ : ∃ b0, b0 = w.heap.size := ⟨_, rfl⟩
    rw [← hb0] at hbk ⊢
    have BK := Lib.hid hbk
    have BL := Lib.hid hbl
    clear hbk hbl hsz1 hw1 hb0
    go_wp2_with (first
      | (go_at_call 12; ((with_reducible refine (fit_any _).mono ?_); rintro e w2 ⟨rfl, b2⟩; have BK2 := Lib.hid (BK.out.keep b2); have BL2 := Lib.hid (BL.out.trans (b2.mono BL.out.size)); have k2 := BK2.out.rd; clear b2))
      | (go_at_call 13; ((with_reducible refine (C1.out _).mono ?_); rintro e w3 ⟨rfl, b3⟩; have BK3 := Lib.hid (BK2.out.keep b3); have BL3 := Lib.hid (BL2.out.trans (b3.mono BL2.out.size)); have k3 := BK3.out.rd; clear b3)))
    go_ret
    exact ⟨rfl, BL3.out⟩
  have C1 := Lib.hid (fun w => (CL.out w).1 hl)
  by_cases hnp : ¬ rightP (mkR o r c s k) 9
  · have C2 := Lib.hid (fun w => (CR.out w).2 hnp)
    clear hnp
    go_enter Try.func8, Try.ntmps8
    go_upto_region 1 with (fail)
    obtain ⟨w1, hw1, hbk, hbl, hsz1⟩ := BOX.out w
    change Code.wp _ _ _ _ (w.alloc (.cells (reqC o r c s k) 24))
    rw [hw1]
    obtain ⟨b0, hb0⟩ : ∃ b0, b0 = w.heap.size := ⟨_, rfl⟩
    rw [← hb0] at hbk ⊢
    have BK := Lib.hid hbk
    have BL := Lib.hid hbl
    clear hbk hbl hsz1 hw1 hb0
    go_wp2_with (first
      | (go_at_call 12; ((with_reducible refine (fit_any _).mono ?_); rintro e w2 ⟨rfl, b2⟩; have BK2 := Lib.hid (BK.out.keep b2); have BL2 := Lib.hid (BL.out.trans (b2.mono BL.out.size)); have k2 := BK2.out.rd; clear b2))
      | (go_at_call 13; ((with_reducible refine (C1.out _).mono ?_); rintro e w3 ⟨rfl, b3⟩; have BK3 := Lib.hid (BK2.out.keep b3); have BL3 := Lib.hid (BL2.out.trans (b3.mono BL2.out.size)); have k3 := BK3.out.rd; clear b3))
      | (go_at_call 15; ((with_reducible refine (C2.out _).mono ?_); rintro e w4 ⟨rfl, b4⟩; have BK4 := Lib.hid (BK3.out.keep b4); have BL4 := Lib.hid (BL3.out.trans (b4.mono BL3.out.size)); have k4 := BK4.out.rd; clear b4)))
    go_ret
    exact ⟨rfl, BL4.out⟩
  have hp := Classical.not_not.1 hnp
  clear hnp
  have C2 := Lib.hid (fun w => (CR.out w).1 hp)
  have HP := Lib.hid hp
  have CE := Lib.hid (fun w => encode_any o r c k s w (right_less HP.out (by omega)) HQC.out)
  have HBY := Lib.hid (enc_byt (right_less HP.out (by omega)) (nums_bd s))
  have h6 := enc_six hp
  obtain ⟨z, hz⟩ : ∃ z, z = encZ (mkR o r c s k) := ⟨_, rfl⟩
  have SP := Lib.hid (fun a (ha : a < z.length) => show (∀ i, i ≤ a → parseZ ((z.set a x).take i) 9 = (req0, 0, 0)) ∧ (∃ p m, parseZ ((z.set a x).take (a + 1)) 9 = (p, m, fltZ ((z.set a x).take (a + 1)) 9 a)) from by
    rw [hz] at ha ⊢
    exact spoiled HP.out ha)
  have hlen := enc_length hp
  rw [← hz] at CE HBY h6 hlen
  obtain ⟨n, hn⟩ : ∃ n, z.length = n := ⟨_, rfl⟩
  have hn82 : n ≤ 400 := by
    rw [← hn, hlen]
    have hk := nums_length s
    show (if (mkR o r c s k).op < 3 then 11 + (nums s).length else _) ≤ 400
    split
    · omega
    · split <;> omega
  rw [hn] at h6 SP
  have HN := Lib.hid hn
  obtain ⟨rm, hrm⟩ : ∃ rm, rm = at0.tmod (n : Int) := ⟨_, rfl⟩
  have hrb : -(n : Int) < rm ∧ rm < (n : Int) := by
    rw [hrm]
    have h1 := Int.tmod_lt_of_pos at0 (show (0 : Int) < (n : Int) by omega)
    have h2 := Int.lt_tmod_of_pos at0 (show (0 : Int) < (n : Int) by omega)
    omega
  obtain ⟨a, ha⟩ : ∃ a : Nat, (rm + (n : Int)) % (n : Int) = (a : Int) := ⟨((rm + (n : Int)) % (n : Int)).toNat, by have := Int.emod_nonneg (rm + (n : Int)) (show (n : Int) ≠ 0 by omega); omega⟩
  have han : a < n := by have := Int.emod_lt_of_pos (rm + (n : Int)) (show (0 : Int) < (n : Int) by omega); omega
  have er1 : at0.tmod (n : Int) = rm := hrm.symm
  have er2 : (rm + (n : Int)).tmod (n : Int) = (a : Int) := by rw [Int.tmod_eq_emod_of_nonneg (by omega)]; exact ha
  have er3 : IntKind.i64.wrap (rm + (n : Int)) = rm + (n : Int) := by rw [IntKind.wrap_i64]; omega
  have er4 : (rm + (n : Int)) % (n : Int) = (a : Int) := ha
  have ens : ¬ (n : Int) = 0 := by omega
  have ens2 : ¬ n = 0 := by omega
  have gan : (a : Int) < (n : Int) := by omega
  have HAN := Lib.hid han
  have HXB := Lib.hid hxb
  clear hn hlen hz hp hl ha hrm
  go_enter Try.func8, Try.ntmps8
  go_upto_region 1 with (fail)
  obtain ⟨w1, hw1, hbk, hbl, hsz1⟩ := BOX.out w
  change Code.wp _ _ _ _ (w.alloc (.cells (reqC o r c s k) 24))
  rw [hw1]
  obtain ⟨b0, hb0⟩ : ∃ b0, b0 = w.heap.size := ⟨_, rfl⟩
  rw [← hb0] at hbk ⊢
  have BK := Lib.hid hbk
  have BL := Lib.hid hbl
  clear hbk hbl hsz1 hw1 hb0
  go_upto_region 8 with (first
    | (go_at_call 12; ((with_reducible refine (fit_any _).mono ?_); rintro e w2 ⟨rfl, b2⟩; have BK2 := Lib.hid (BK.out.keep b2); have BL2 := Lib.hid (BL.out.trans (b2.mono BL.out.size)); have k2 := BK2.out.rd; clear b2))
    | (go_at_call 13; ((with_reducible refine (C1.out _).mono ?_); rintro e w3 ⟨rfl, b3⟩; have BK3 := Lib.hid (BK2.out.keep b3); have BL3 := Lib.hid (BL2.out.trans (b3.mono BL2.out.size)); have k3 := BK3.out.rd; clear b3))
    | (go_at_call 15; ((with_reducible refine (C2.out _).mono ?_); rintro e w4 ⟨rfl, b4⟩; have BK4 := Lib.hid (BK3.out.keep b4); have BL4 := Lib.hid (BL3.out.trans (b4.mono BL3.out.size)); have k4 := BK4.out.rd; clear b4))
    | (go_at_call 16; ((with_reducible refine (CE.out _).mono ?_); rintro e w5 ⟨v5, rfl, o5, b5⟩; obtain ⟨g, c5, rfl, r5, _, _⟩ := own_read o5 HBY.out n HN.out (by omega); have g1 : (n : Int) ≤ (c5 : Int) := (by have := r5.cap; omega); have g2 : (c5 : Int) ≤ 9223372036854775807 := (by have := r5.max; unfold maxLen at this; omega); have O5 := Lib.hid o5; have BL5 := Lib.hid (BL4.out.trans (b5.mono BL4.out.size)); have OS := own_set o5 HN.out a HAN.out x; have HOS := Lib.hid OS.1; have kf := OS.2.1; obtain ⟨vv, kv⟩ := OS.2.2.1; have HFS := Lib.hid (OS.2.2.2); have HGB := Lib.hid (own_base0 o5); clear b5 o5 r5 OS)))
  obtain ⟨w6, hw6⟩ : ∃ w6, w6 = w5.setCell ⟨g, a, none⟩ (.int .u8 x) := ⟨_, rfl⟩
  rw [← hw6] at HOS HFS ⊢
  have BL6 := Lib.hid (BL5.out.trans (HFS.out.below BL5.out.size (fun q hq => by have := HGB.out; have := BL4.out.size; omega)))
  have R6 := Lib.hid (show RdI w6 .u8 (some ⟨g, 0, none⟩) n c5 (z.set a x) from by
    obtain ⟨g', c', e, hr, _⟩ := own_read HOS.out (byt_set HBY.out HXB.out) n (by rw [List.length_set]; exact HN.out) (by omega)
    injection e with e1 e2 e3
    injection e1 with e1; injection e1 with e1
    subst e1 e3
    exact hr)
  clear kf kv hw6
  go_wp2
  go_loopg [43] a (fun kk s43 wr => ∃ i : Nat, i ≤ a ∧ kk = a - i ∧ s43 = .int .i64 (i : Int) ∧ Below w6.heap.size w6 wr)
  case atStart => exact ⟨0, by omega, by omega, rfl, Below.refl _ _⟩
  case round =>
    obtain ⟨i, hi, hkk, rfl, hb⟩ := hrel
    have HK := Lib.hid hkk
    have HBR := Lib.hid hb
    have HIA := Lib.hid hi
    clear hkk hb
    have RR := Lib.hid (R6.out.below HBR.out)
    by_cases hia : i < a
    · have P := Lib.hid ((SP.out a HAN.out).1 i (by omega))
      have g3 : (i : Int) ≤ (c5 : Int) := by omega
      have t3 : (i : Int) < (a : Int) := by omega
      go_wp2_with (go_at_call 18; ((with_reducible refine (parse_x _ i c5 ((z.set a x).take i) 9 req0 0 0 _ (rdI_take RR.out (by omega)) P.out).mono ?_); rintro e w7 ⟨rfl, b7⟩; have B7 := Lib.hid (HBR.out.trans (b7.mono HBR.out.size)); clear b7))
      go_roundg (a - (i + 1))
      case measure => have := HK.out; omega
      case rel => exact ⟨i + 1, by omega, by omega, by go_num, B7.out.alloc B7.out.size _⟩
    · have hie : i = a := by omega
      subst hie
      obtain ⟨p, m, hpm⟩ := (SP.out i HAN.out).2
      obtain ⟨f, hf⟩ : ∃ f, f = fltZ ((z.set i x).take (i + 1)) 9 i := ⟨_, rfl⟩
      rw [← hf] at hpm
      have P := Lib.hid hpm
      have HF := Lib.hid hf
      have HAT := Lib.hid (spoiled_at (z := z) (x := x) (show i < z.length by rw [HN.out]; exact HAN.out))
      have g3 : (i : Int) + 1 ≤ (c5 : Int) := by omega
      have t3 : ¬ (i : Int) < (i : Int) := by omega
      clear hpm hf
      by_cases hi0 : i = 0
      · have e0 : ((i : Int) == 0) = true := by rw [hi0]; rfl
        have e1 : ((i : Int) == 1) = false := by simp; omega
        have e2 : ((i : Int) == 2) = false := by simp; omega
        have e5 : ((i : Int) == 5) = false := by simp; omega
        have u0 : decide ((2 : Int) < (i : Int)) = false := by simp; omega
        have u5 : ((i : Int) != 5) = true := by simp; omega
        by_cases hy : x = 167
        · have hf : f = 0 := by rw [HF.out]; unfold fltZ; rw [HAT.out]; simp [hi0] <;> omega
          subst hf
          have t1 : (x != 167) = false := by simp; omega
          clear hi0 hy
          go_wp2_with (go_at_call 18; ((with_reducible refine (parse_x _ (i + 1) c5 ((z.set i x).take (i + 1)) 9 _ _ _ _ (rdI_take RR.out (by have := HAN.out; omega)) P.out).mono ?_); rintro e w7 ⟨rfl, b7⟩; have B7 := Lib.hid (BL6.out.trans ((HBR.out.trans (b7.mono HBR.out.size)).mono BL6.out.size)); clear b7))
          go_ret
          exact ⟨rfl, B7.out.alloc B7.out.size _⟩
        · have hf : f = 5 := by rw [HF.out]; unfold fltZ; rw [HAT.out]; simp [hi0] <;> omega
          subst hf
          have t1 : (x != 167) = true := by simp; omega
          clear hi0 hy
          go_wp2_with (go_at_call 18; ((with_reducible refine (parse_x _ (i + 1) c5 ((z.set i x).take (i + 1)) 9 _ _ _ _ (rdI_take RR.out (by have := HAN.out; omega)) P.out).mono ?_); rintro e w7 ⟨rfl, b7⟩; have B7 := Lib.hid (BL6.out.trans ((HBR.out.trans (b7.mono HBR.out.size)).mono BL6.out.size)); clear b7))
          go_ret
          exact ⟨rfl, B7.out.alloc B7.out.size _⟩
      by_cases hi0 : i = 1
      · have e0 : ((i : Int) == 0) = false := by simp; omega
        have e1 : ((i : Int) == 1) = true := by rw [hi0]; rfl
        have e2 : ((i : Int) == 2) = false := by simp; omega
        have e5 : ((i : Int) == 5) = false := by simp; omega
        have u0 : decide ((2 : Int) < (i : Int)) = false := by simp; omega
        have u5 : ((i : Int) != 5) = true := by simp; omega
        by_cases hy : x = 1
        · have hf : f = 0 := by rw [HF.out]; unfold fltZ; rw [HAT.out]; simp [hi0] <;> omega
          subst hf
          have t1 : (x != 1) = false := by simp; omega
          clear hi0 hy
          go_wp2_with (go_at_call 18; ((with_reducible refine (parse_x _ (i + 1) c5 ((z.set i x).take (i + 1)) 9 _ _ _ _ (rdI_take RR.out (by have := HAN.out; omega)) P.out).mono ?_); rintro e w7 ⟨rfl, b7⟩; have B7 := Lib.hid (BL6.out.trans ((HBR.out.trans (b7.mono HBR.out.size)).mono BL6.out.size)); clear b7))
          go_ret
          exact ⟨rfl, B7.out.alloc B7.out.size _⟩
        · have hf : f = 6 := by rw [HF.out]; unfold fltZ; rw [HAT.out]; simp [hi0] <;> omega
          subst hf
          have t1 : (x != 1) = true := by simp; omega
          clear hi0 hy
          go_wp2_with (go_at_call 18; ((with_reducible refine (parse_x _ (i + 1) c5 ((z.set i x).take (i + 1)) 9 _ _ _ _ (rdI_take RR.out (by have := HAN.out; omega)) P.out).mono ?_); rintro e w7 ⟨rfl, b7⟩; have B7 := Lib.hid (BL6.out.trans ((HBR.out.trans (b7.mono HBR.out.size)).mono BL6.out.size)); clear b7))
          go_ret
          exact ⟨rfl, B7.out.alloc B7.out.size _⟩
      by_cases hi0 : i = 2
      · have e0 : ((i : Int) == 0) = false := by simp; omega
        have e1 : ((i : Int) == 1) = false := by simp; omega
        have e2 : ((i : Int) == 2) = true := by rw [hi0]; rfl
        have e5 : ((i : Int) == 5) = false := by simp; omega
        have u0 : decide ((2 : Int) < (i : Int)) = false := by simp; omega
        have u5 : ((i : Int) != 5) = true := by simp; omega
        by_cases hy : x = 0
        · have hf : f = 0 := by rw [HF.out]; unfold fltZ; rw [HAT.out]; simp [hi0] <;> omega
          subst hf
          have t1 : (x != 0) = false := by simp; omega
          clear hi0 hy
          go_wp2_with (go_at_call 18; ((with_reducible refine (parse_x _ (i + 1) c5 ((z.set i x).take (i + 1)) 9 _ _ _ _ (rdI_take RR.out (by have := HAN.out; omega)) P.out).mono ?_); rintro e w7 ⟨rfl, b7⟩; have B7 := Lib.hid (BL6.out.trans ((HBR.out.trans (b7.mono HBR.out.size)).mono BL6.out.size)); clear b7))
          go_ret
          exact ⟨rfl, B7.out.alloc B7.out.size _⟩
        · have hf : f = 7 := by rw [HF.out]; unfold fltZ; rw [HAT.out]; simp [hi0] <;> omega
          subst hf
          have t1 : (x != 0) = true := by simp; omega
          clear hi0 hy
          go_wp2_with (go_at_call 18; ((with_reducible refine (parse_x _ (i + 1) c5 ((z.set i x).take (i + 1)) 9 _ _ _ _ (rdI_take RR.out (by have := HAN.out; omega)) P.out).mono ?_); rintro e w7 ⟨rfl, b7⟩; have B7 := Lib.hid (BL6.out.trans ((HBR.out.trans (b7.mono HBR.out.size)).mono BL6.out.size)); clear b7))
          go_ret
          exact ⟨rfl, B7.out.alloc B7.out.size _⟩
      by_cases hi0 : i = 5
      · have e0 : ((i : Int) == 0) = false := by simp; omega
        have e1 : ((i : Int) == 1) = false := by simp; omega
        have e2 : ((i : Int) == 2) = false := by simp; omega
        have e5 : ((i : Int) == 5) = true := by rw [hi0]; rfl
        have u0 : decide ((2 : Int) < (i : Int)) = true := by simp; omega
        have u5 : ((i : Int) != 5) = false := by simp; omega
        by_cases hy : x < 9
        · have hf : f = 0 := by rw [HF.out]; unfold fltZ; rw [HAT.out]; simp [hi0] <;> omega
          subst hf
          have t1 : decide (8 < x) = false := by simp; omega
          clear hi0 hy
          go_wp2_with (go_at_call 18; ((with_reducible refine (parse_x _ (i + 1) c5 ((z.set i x).take (i + 1)) 9 _ _ _ _ (rdI_take RR.out (by have := HAN.out; omega)) P.out).mono ?_); rintro e w7 ⟨rfl, b7⟩; have B7 := Lib.hid (BL6.out.trans ((HBR.out.trans (b7.mono HBR.out.size)).mono BL6.out.size)); clear b7))
          go_ret
          exact ⟨rfl, B7.out.alloc B7.out.size _⟩
        · have hf : f = 9 := by rw [HF.out]; unfold fltZ; rw [HAT.out]; simp [hi0] <;> omega
          subst hf
          have t1 : decide (8 < x) = true := by simp; omega
          clear hi0 hy
          go_wp2_with (go_at_call 18; ((with_reducible refine (parse_x _ (i + 1) c5 ((z.set i x).take (i + 1)) 9 _ _ _ _ (rdI_take RR.out (by have := HAN.out; omega)) P.out).mono ?_); rintro e w7 ⟨rfl, b7⟩; have B7 := Lib.hid (BL6.out.trans ((HBR.out.trans (b7.mono HBR.out.size)).mono BL6.out.size)); clear b7))
          go_ret
          exact ⟨rfl, B7.out.alloc B7.out.size _⟩
      have e0 : ((i : Int) == 0) = false := by simp; omega
      have e1 : ((i : Int) == 1) = false := by simp; omega
      have e2 : ((i : Int) == 2) = false := by simp; omega
      have e5 : ((i : Int) == 5) = false := by simp; omega
      have u0 : decide ((2 : Int) < (i : Int)) = true := by simp; omega
      have u5 : ((i : Int) != 5) = true := by simp; omega
      have u6 : (2 : Int) < (i : Int) := by omega
      go_wp2_with (go_at_call 18; ((with_reducible refine (parse_x _ (i + 1) c5 ((z.set i x).take (i + 1)) 9 _ _ _ _ (rdI_take RR.out (by have := HAN.out; omega)) P.out).mono ?_); rintro e w7 ⟨rfl, b7⟩; have B7 := Lib.hid (BL6.out.trans ((HBR.out.trans (b7.mono HBR.out.size)).mono BL6.out.size)); clear b7))
      go_ret
      exact ⟨rfl, B7.out.alloc B7.out.size _⟩
end Go.Proofs.Ytdhdheakhcddbaa
