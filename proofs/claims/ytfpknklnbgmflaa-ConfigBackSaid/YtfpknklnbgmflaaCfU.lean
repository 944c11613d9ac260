/- The contracts of layer 17 (config): Decode. -/
import Derived.Test.YtfpknklnbgmflaaCfT
namespace Go.Proofs.Ytfpknklnbgmflaa
set_option linter.unusedSimpArgs false
set_option linter.unusedVariables false
open Go.ChangeShapes Go.WideShapes Go.ChangeAt Go.RowKit Go.Deep
def lstR (z : List Int) (k : Nat) : List RuZ := (List.range k).map fun i => ruZof (z.drop (32 + 72 * i))
theorem lstR_length (z : List Int) (k : Nat) : (lstR z k).length = k := by simp [lstR]
theorem lstR_succ (z : List Int) (k : Nat) : lstR z (k + 1) = lstR z k ++ [ruZof (z.drop (32 + 72 * k))] := by
  unfold lstR
  rw [List.range_succ, List.map_append]
  rfl
theorem ruZof_ok {z : List Int} (h : byt z) : (ruZof z).ok := ⟨num8_i64 h, num8_i64 (byt_drop h _), num8_i64 (byt_drop h _), num8_i64 (byt_drop h _), num8_i64 (byt_drop h _), num8_i64 (byt_drop h _), num8_i64 (byt_drop h _), num8_i64 (byt_drop h _)⟩
theorem lstR_ok {z : List Int} (h : byt z) (k : Nat) : ∀ r ∈ lstR z k, r.ok := by
  intro r hr
  obtain ⟨i, _, rfl⟩ := List.mem_map.1 hr
  exact ruZof_ok (byt_drop h _)
/-- may bytes be a configuration of so many rules? -/
def DecOK (z : List Int) (k : Nat) : Prop := num8 (z.drop 24) = (k : Int) ∧ (1 ≤ k ∧ k ≤ 8) ∧ z.length = 32 + 72 * k ∧ (∀ i, i < k → ruOk (z.drop (32 + 72 * i)) = true) ∧ rightZ (num8 z) (num8 (z.drop 8)) (num8 (z.drop 16)) (lstR z k)
def DecP (w : World) (z : List Int) (e : Ending) (w' : World) : Prop :=
  (∃ (LA : Option Addr) (LC k : Nat), DecOK z k ∧ e = .returned (.tuple #[.agg (coC (num8 z) (num8 (z.drop 8)) (num8 (z.drop 16)) (.slice LA k LC)), .int .i64 0]) ∧ w'.ownsRow w.heap.size 23 9 (.slice LA k LC) k (cells9 (lstR z k)) ∧ Below w.heap.size w w') ∨
  ((∀ k, ¬ DecOK z k) ∧ e = .returned (.tuple #[.agg (coC 0 0 0 (.slice none 0 0)), .int .i64 3]) ∧ Below w.heap.size w w')
set_option maxHeartbeats 16000000 in
set_option maxRecDepth 100000 in
theorem cdecode_any (A : Option Addr) (n c : Nat) (z : List Int) (hn : n ≤ 100000) (w : World) (hr : RdI w .u8 A n c z) :
    Calls Try.prog 19 #[.slice A n c] w (DecP w z) := by
  have hcp := hr.cap
  have hmx := hr.max
  unfold maxLen at hmx
  have HR := Lib.hid hr
  have HL := Lib.hid hr.len
  have HBY := Lib.hid (rdI_hd hr)
  have HN := Lib.hid hn
  have hnb : (n : Int) ≤ 100000 := by omega
  have BOX := Lib.hid (box_new w (coC 0 0 0 (.slice none 0 0)) 29)
  by_cases h32 : (n : Int) < 32
  · have HNO := Lib.hid (show ∀ k, ¬ DecOK z k from fun k h => by have := h.2.2.1; have := HL.out; omega)
    clear hr hn
    go_enter Try.func19, Try.ntmps19
    go_upto_region 1 with (fail)
    obtain ⟨w1, hw1, hbk, hbl, hsz1⟩ := BOX.out
    change Code.wp _ _ _ _ (w.alloc (.cells (coC 0 0 0 (.slice none 0 0)) 29))
    rw [hw1]
    obtain ⟨b0, hb0⟩ : ∃ b0, b0 = w.heap.size := ⟨_, rfl⟩
    rw [← hb0] at hbk ⊢
    have HB0 := Lib.hid hb0
    have K1 := Lib.hid hbk
    have L1 := Lib.hid hbl
    have kw := hbk.wr
    have kr := hbk.rd
    clear hbk hbl hsz1 hw1 hb0
    go_wp2
    rw [conf_set K1.out]
    refine bodyPost_ret (results_cellt rfl _ _ b0 _ _ (0, 0) _ rfl (setObj_at (lt_of_block K1.out) _) Try.underlying29 rfl (by kernel_rfl)) rfl ?_
    exact .inr ⟨HNO.out, rfl, L1.out.trans ((Fr.setObj (F := fun k => k = b0) (Fr.refl _ _) rfl _).below L1.out.size (fun k hk => by have := HB0.out; omega))⟩
  have CN3 := Lib.hid (fun (wx : World) (hx : Below w.heap.size w wx) => cnum_any A n c z 3 3 rfl (by omega) wx (HR.out.below hx))
  have CN0 := Lib.hid (fun (wx : World) (hx : Below w.heap.size w wx) => cnum_any A n c z 0 0 rfl (by omega) wx (HR.out.below hx))
  have CN1 := Lib.hid (fun (wx : World) (hx : Below w.heap.size w wx) => cnum_any A n c z 1 1 rfl (by omega) wx (HR.out.below hx))
  have CN2 := Lib.hid (fun (wx : World) (hx : Below w.heap.size w wx) => cnum_any A n c z 2 2 rfl (by omega) wx (HR.out.below hx))
  simp only [Nat.reduceMul, List.drop_zero] at CN3 CN0 CN1 CN2
  obtain ⟨N, hN⟩ : ∃ N, N = num8 (z.drop 24) := ⟨_, rfl⟩
  rw [← hN] at CN3
  have HNN := Lib.hid hN
  have hNb : i64P N := by rw [hN]; exact num8_i64 (byt_drop HBY.out _)
  unfold i64P at hNb
  clear hr hn hN
  by_cases hw : 1 ≤ N ∧ N ≤ 8
  · obtain ⟨k, hk⟩ : ∃ k : Nat, N = (k : Int) := ⟨N.toNat, by omega⟩
    have CWN := Lib.hid (within_yes N 8 hw)
    rw [hk] at CWN CN3
    have HKB := Lib.hid (show 1 ≤ k ∧ k ≤ 8 from by omega)
    have HNK := Lib.hid (show num8 (z.drop 24) = (k : Int) from by rw [← HNN.out, hk])
    have hkb : (k : Int) ≤ 8 := by omega
    obtain ⟨q1, hq1⟩ : ∃ q : Nat, q = 9 * k := ⟨_, rfl⟩
    obtain ⟨q2, hq2⟩ : ∃ q : Nat, q = 4 + q1 := ⟨_, rfl⟩
    obtain ⟨q3, hq3⟩ : ∃ q : Nat, q = q2 * 8 := ⟨_, rfl⟩
    have e1 : 9 * (k : Int) = (q1 : Int) := by omega
    have e2 : 4 + (q1 : Int) = (q2 : Int) := by omega
    have e3 : (q2 : Int) * 8 = (q3 : Int) := by omega
    have ew1 : wrap64 (q1 : Int) = (q1 : Int) := by unfold wrap64; omega
    have ew2 : wrap64 (q2 : Int) = (q2 : Int) := by unfold wrap64; omega
    have ew3 : wrap64 (q3 : Int) = (q3 : Int) := by unfold wrap64; omega
    have hq3b : (q3 : Int) ≤ 608 := by omega
    have HQ3 := Lib.hid (show q3 = 32 + 72 * k from by omega)
    clear hw hk hq1 hq2 hq3 hNb
    by_cases hlen : n = q3
    · subst hlen
      have tl : ((n : Int) != (n : Int)) = false := by simp
      go_enter Try.func19, Try.ntmps19
      go_upto_region 1 with (fail)
      obtain ⟨w1, hw1, hbk, hbl, hsz1⟩ := BOX.out
      change Code.wp _ _ _ _ (w.alloc (.cells (coC 0 0 0 (.slice none 0 0)) 29))
      rw [hw1]
      obtain ⟨b0, hb0⟩ : ∃ b0, b0 = w.heap.size := ⟨_, rfl⟩
      rw [← hb0] at hbk ⊢
      have HB0 := Lib.hid hb0
      have K1 := Lib.hid hbk
      have L1 := Lib.hid hbl
      clear hbk hbl hsz1 hw1 hb0
      go_upto_region 4 with (go_at_call 31; ((with_reducible refine (CN3.out _ L1.out).mono ?_); rintro e w2 ⟨rfl, b2⟩; have K2 := Lib.hid (K1.out.keep b2); have L2 := Lib.hid (L1.out.trans (b2.mono L1.out.size)); clear b2))
      obtain ⟨Bu, hBu⟩ : ∃ x, x = num8 z := ⟨_, rfl⟩
      obtain ⟨Co, hCo⟩ : ∃ x, x = num8 (z.drop 8) := ⟨_, rfl⟩
      obtain ⟨Ou, hOu⟩ : ∃ x, x = num8 (z.drop 16) := ⟨_, rfl⟩
      have HB3 := Lib.hid (show Bu = num8 z ∧ Co = num8 (z.drop 8) ∧ Ou = num8 (z.drop 16) from ⟨hBu, hCo, hOu⟩)
      rw [← hBu] at CN0
      rw [← hCo] at CN1
      rw [← hOu] at CN2
      clear hBu hCo hOu
      go_upto_region 7 with (first
        | (go_at_call 23; ((with_reducible refine (CWN.out _).mono ?_); rintro e w3 ⟨rfl, rfl⟩))
        | (go_at_call 31; ((with_reducible refine (CN0.out _ L2.out).mono ?_); rintro e w3 ⟨rfl, b3⟩; have K3 := Lib.hid (K2.out.keep b3); have L3 := Lib.hid (L2.out.trans (b3.mono L2.out.size)); clear b3))
        | (go_at_call 31; ((with_reducible refine (CN1.out _ L3.out).mono ?_); rintro e w4 ⟨rfl, b4⟩; have K4 := Lib.hid (K3.out.keep b4); have L4 := Lib.hid (L3.out.trans (b4.mono L3.out.size)); clear b4))
        | (go_at_call 31; ((with_reducible refine (CN2.out _ L4.out).mono ?_); rintro e w5 ⟨rfl, b5⟩; have K5 := Lib.hid (K4.out.keep b5); have L5 := Lib.hid (L4.out.trans (b5.mono L4.out.size)); clear b5)))
      obtain ⟨w6, hw6, hbk, hbl, hsz6⟩ := box_new w5 (coC Bu Co Ou (.slice none 0 0)) 29
      change Code.wp _ _ _ _ (w5.alloc (.cells (coC Bu Co Ou (.slice none 0 0)) 29))
      rw [hw6]
      obtain ⟨b5, hb5⟩ : ∃ b5, b5 = w5.heap.size := ⟨_, rfl⟩
      rw [← hb5] at hbk ⊢
      have NE := Lib.hid (show b0 < b5 from by rw [hb5]; exact lt_of_block K5.out)
      have D6 := Lib.hid hbk
      have K6 := Lib.hid (K5.out.keep hbl)
      have L6 := Lib.hid (L5.out.trans (hbl.mono L5.out.size))
      clear hw6 hbk hbl hsz6 hb5
      go_upto_region 8 with (fail)
      go_loopg [36] k (fun kx s36 wr => ∃ (i : Nat) (dv : Value), i ≤ k ∧ kx = k - i ∧ s36 = .int .i64 (i : Int) ∧ Blk wr b0 29 (coC 0 0 0 (.slice none 0 0)) ∧ Blk wr b5 29 (coC Bu Co Ou dv) ∧ wr.ownsRow w.heap.size 23 9 dv i (cells9 (lstR z i)) ∧ (∀ j, j < i → ruOk (z.drop (32 + 72 * j)) = true) ∧ Below w.heap.size w wr)
      case atStart => exact ⟨0, .slice none 0 0, by omega, by omega, rfl, K6.out, D6.out, World.ownsRow_nil _ _ _ _, (fun j hj => absurd hj (by omega)), L6.out⟩
      case round =>
        obtain ⟨i, dv, hi, hkx, rfl, hp, hd, hown, hall, hb⟩ := hrel
        have HK := Lib.hid hkx
        have HP := Lib.hid hp
        have HD := Lib.hid hd
        have HO := Lib.hid hown
        have HALL := Lib.hid hall
        have HB := Lib.hid hb
        clear hkx hp hd hown hall hb
        by_cases hin : i < k
        · obtain ⟨t, ht⟩ : ∃ t : Nat, t = 32 + 72 * i := ⟨_, rfl⟩
          obtain ⟨r1, hr1⟩ : ∃ q : Nat, q = 9 * i := ⟨_, rfl⟩
          obtain ⟨r2, hr2⟩ : ∃ q : Nat, q = 4 + r1 := ⟨_, rfl⟩
          have g1 : 9 * (i : Int) = (r1 : Int) := by omega
          have g2 : 4 + (r1 : Int) = (r2 : Int) := by omega
          have g3 : (r2 : Int) * 8 = (t : Int) := by omega
          have gw1 : wrap64 (r1 : Int) = (r1 : Int) := by unfold wrap64; omega
          have gw2 : wrap64 (r2 : Int) = (r2 : Int) := by unfold wrap64; omega
          have gw3 : wrap64 (t : Int) = (t : Int) := by unfold wrap64; omega
          have htn : t + 72 ≤ n := by have := HQ3.out; omega
          obtain ⟨A', hsl, hr'⟩ := slice_tail (HR.out.below HB.out) (show t ≤ n by omega)
          have CR0 := crule_any A' (n - t) (c - t) (z.drop t) (by omega) _ hr'
          have HOKR := Lib.hid (ruZof_ok (byt_drop HBY.out t))
          obtain ⟨ru, hru⟩ : ∃ ru, ru = ruZof (z.drop t) := ⟨_, rfl⟩
          obtain ⟨ok, hokk⟩ : ∃ ok, ok = ruOk (z.drop t) := ⟨_, rfl⟩
          have HLS := Lib.hid (show lstR z (i + 1) = lstR z i ++ [ru] from by rw [lstR_succ, hru, ht])
          have HOKI := Lib.hid (show ok = ruOk (z.drop (32 + 72 * i)) from by rw [hokk, ht])
          rw [← hru, ← hokk] at CR0
          obtain ⟨n', hn'⟩ : ∃ n', n' = n - t := ⟨_, rfl⟩
          obtain ⟨c', hc'⟩ : ∃ c', c' = c - t := ⟨_, rfl⟩
          rw [← hn', ← hc'] at CR0 hsl
          obtain ⟨L, W, Bb, Sl, Ce, Ro, Wi, Tr, sm⟩ := ru
          have CR := Lib.hid (show Calls Try.prog 32 #[.slice A' n' c'] wr (fun e w' => e = .returned (.tuple #[.agg (ruC L W Bb Sl Ce Ro Wi Tr sm), .bool ok]) ∧ Below wr.heap.size wr w') from CR0)
          obtain ⟨i0, hi0, hz0, hz1, hz2⟩ := info_parts infoRule
          clear CR0 hr' hru hokk htn ht hr1 hr2 hn' hc'
          go_upto_region 11 with (go_at_call 32; ((with_reducible refine CR.out.mono ?_); rintro e w7 ⟨rfl, b7⟩; have P7 := Lib.hid (HP.out.keep b7); have D7 := Lib.hid (HD.out.keep b7); have O7 := Lib.hid (owns_fr9 HO.out (F := fun _ => False) (Fr.of_below b7) (fun _ _ h => h)); have B7 := Lib.hid (HB.out.trans (b7.mono HB.out.size)); clear b7))
          obtain ⟨w8, hw8, hbk, hbl, hsz8⟩ := box_new w7 (ruC L W Bb Sl Ce Ro Wi Tr sm) 23
          change Code.wp _ _ _ _ (w7.alloc (.cells (ruC L W Bb Sl Ce Ro Wi Tr sm) 23))
          rw [hw8]
          obtain ⟨b8, hb8⟩ : ∃ b8, b8 = w7.heap.size := ⟨_, rfl⟩
          rw [← hb8] at hbk ⊢
          have R8 := Lib.hid hbk
          have P8 := Lib.hid (P7.out.keep hbl)
          have D8 := Lib.hid (D7.out.keep hbl)
          have O8 := Lib.hid (owns_fr9 O7.out (F := fun _ => False) (Fr.of_below hbl) (fun _ _ h => h))
          have B8 := Lib.hid (B7.out.trans (hbl.mono B7.out.size))
          have k8 := hbk.rd
          clear hw8 hbk hbl hsz8 hb8
          cases ok with
          | false =>
            have HNO := Lib.hid (show ∀ k', ¬ DecOK z k' from fun k' h => by
              have h1 := h.1
              rw [HNK.out] at h1
              have h2 := h.2.2.2.1 i (by omega)
              rw [← HOKI.out] at h2
              cases h2)
            have kw := P8.out.wr
            have kr := P8.out.rd
            go_wp2
            rw [conf_set P8.out]
            refine bodyPost_ret (results_cellt rfl _ _ b0 _ _ (0, 0) _ rfl (setObj_at (lt_of_block P8.out) _) Try.underlying29 rfl (by kernel_rfl)) rfl ?_
            exact .inr ⟨HNO.out, rfl, B8.out.trans ((Fr.setObj (F := fun k => k = b0) (Fr.refl _ _) rfl _).below B8.out.size (fun k hk => by have := HB0.out; omega))⟩
          | true =>
            have d8 := D8.out.rd
            have NW := Lib.hid (heap_alloc_new w8 (.cells (ruC L W Bb Sl Ce Ro Wi Tr sm) 23))
            have PA := Lib.hid (P8.out.alloc (.cells (ruC L W Bb Sl Ce Ro Wi Tr sm) 23))
            have DA := Lib.hid (D8.out.alloc (.cells (ruC L W Bb Sl Ce Ro Wi Tr sm) 23))
            have OA := Lib.hid (show (w8.alloc (.cells (ruC L W Bb Sl Ce Ro Wi Tr sm) 23)).ownsRow w.heap.size 23 9 dv i (cells9 (lstR z i)) from O8.out.alloc _)
            have SZ8 := Lib.hid (show w.heap.size ≤ w8.heap.size from B8.out.size)
            have BA := Lib.hid (show Below w.heap.size w (w8.alloc (.cells (ruC L W Bb Sl Ce Ro Wi Tr sm) 23)) from B8.out.alloc SZ8.out _)
            have HAL2 := Lib.hid (show ∀ j, j < i + 1 → ruOk (z.drop (32 + 72 * j)) = true from fun j hj => by
              by_cases hji : j = i
              · subst hji; exact HOKI.out.symm
              · exact HALL.out j (by omega))
            go_upto_region 14 with (at_builtin; refine wpList_append_lies _ (by rfl) _ _ 27 (by rfl) w.heap.size 23 i0 (.agg (ruC 0 0 0 0 0 0 0 0 false)) 9 72 Try.underlying27 hi0 hz0 hz1 hz2 (by rfl) (by omega) dv i (cells9 (lstR z i)) (by rfl) OA.out ⟨w8.heap.size, 0, none⟩ 1 1 (ruC L W Bb Sl Ce Ro Wi Tr sm).toList (by rfl) (by rfl) (World.news_of_block NW.out) (by simp [Value.oneCell']) (by omega) (by have := HKB.out; unfold maxLen; omega) (by have := HKB.out; omega) (by have := SZ8.out; simp; omega) (w8.heap.size + 1) (by simp) ?_; intro gl cl w9 hown9 hgrow9 hat9 hlt9; have HO9 := Lib.hid hown9; have FR9 := Lib.hid (fr_row9 hgrow9); have GT := Lib.hid (fun gq hq => owns_typ OA.out gq hq); have P9 := Lib.hid (PA.out.fr FR9.out (fun hF => by obtain ⟨_, _, cx, fx, hx⟩ := GT.out b0 hF; rw [show _ = _ from PA.out] at hx; injection hx with hx; injection hx with _ hx; revert hx; decide)); have D9 := Lib.hid (DA.out.fr FR9.out (fun hF => by obtain ⟨_, _, cx, fx, hx⟩ := GT.out b5 hF; rw [show _ = _ from DA.out] at hx; injection hx with hx; injection hx with _ hx; revert hx; decide)); have BR9 := Lib.hid (BA.out.trans (FR9.out.below (by have := SZ8.out; simp; omega) (fun kq hq => (GT.out kq hq).1))); have d9 := D9.out.rd; have d9w := D9.out.wr; clear hown9 hgrow9 hat9 hlt9)
            clear d9 d9w d8 k8
            go_wp2
            go_roundg (k - (i + 1))
            case measure => have := HK.out; omega
            case rel =>
              have e9 := setCell_obj D9.out (i := 3) (.slice (some ⟨gl, 0, none⟩) (i + 1) cl)
              rw [e9]
              have FRS : Fr (fun k => k = b5) w9 (setObj w9 b5 (.cells ((coC Bu Co Ou dv).setIfInBounds 3 (.slice (some ⟨gl, 0, none⟩) (i + 1) cl)) 29 (0, 0))) := Fr.setObj (F := fun k => k = b5) (Fr.refl _ _) rfl _
              refine ⟨i + 1, _, by omega, by omega, by go_num, P9.out.fr FRS (by have := NE.out; omega), setObj_at (lt_of_block D9.out) _, ?_, HAL2.out, ?_⟩
              · rw [HLS.out, cells9_app]
                refine owns_fr9 HO9.out FRS (fun gq hq hF => ?_)
                obtain ⟨_, _, cx, fx, hx⟩ := owns_typ HO9.out gq hq
                rw [hF] at hx
                rw [show _ = _ from D9.out] at hx; injection hx with hx; injection hx with _ hx; revert hx; decide
              · exact BR9.out.trans (FRS.below BR9.out.size (fun kq hq => by have h1 := NE.out; have h2 := HB0.out; omega))
        · have hie : k = i := by omega
          subst hie
          obtain ⟨v, hv⟩ : ∃ v : Bool, v = true ↔ rightZ Bu Co Ou (lstR z k) := by
            by_cases h : rightZ Bu Co Ou (lstR z k)
            · exact ⟨true, fun _ => h, fun _ => rfl⟩
            · exact ⟨false, fun e => absurd e (by simp), fun e => absurd e h⟩
          have hown := HO.out
          obtain ⟨LA, LC, rfl, hrd⟩ := ru_at hown (lstR_ok HBY.out k)
          have CR := Lib.hid (right_any Bu Co Ou LA k LC (lstR z k) v hv wr hrd)
          have HV := Lib.hid hv
          have d0 := HD.out.rd
          clear hrd hown hv
          cases v with
          | false =>
            have HNO := Lib.hid (show ∀ k', ¬ DecOK z k' from fun k' h => by
              have h1 := h.1
              rw [HNK.out] at h1
              have h2 : k' = k := by omega
              subst h2
              have h3 := h.2.2.2.2
              rw [← HB3.out.1, ← HB3.out.2.1, ← HB3.out.2.2] at h3
              have h4 := HV.out.2 h3
              cases h4)
            go_wp2_with (go_at_call 14; ((with_reducible refine CR.out.mono ?_); rintro e w7 ⟨rfl, b7⟩; have P7 := Lib.hid (HP.out.keep b7); have B7 := Lib.hid (HB.out.trans (b7.mono HB.out.size)); have kw := P7.out.wr; have kr := P7.out.rd; clear b7))
            rw [conf_set P7.out]
            refine bodyPost_ret (results_cellt rfl _ _ b0 _ _ (0, 0) _ rfl (setObj_at (lt_of_block P7.out) _) Try.underlying29 rfl (by kernel_rfl)) rfl ?_
            exact .inr ⟨HNO.out, rfl, B7.out.trans ((Fr.setObj (F := fun k => k = b0) (Fr.refl _ _) rfl _).below B7.out.size (fun k hk => by have := HB0.out; omega))⟩
          | true =>
            have HYES := Lib.hid (show DecOK z k from ⟨HNK.out, HKB.out, by rw [HL.out]; exact HQ3.out, HALL.out, by rw [← HB3.out.1, ← HB3.out.2.1, ← HB3.out.2.2]; exact HV.out.1 rfl⟩)
            go_wp2_with (go_at_call 14; ((with_reducible refine CR.out.mono ?_); rintro e w7 ⟨rfl, b7⟩; have P7 := Lib.hid (HP.out.keep b7); have D7 := Lib.hid (HD.out.keep b7); have O7 := Lib.hid (owns_fr9 HO.out (F := fun _ => False) (Fr.of_below b7) (fun _ _ h => h)); have B7 := Lib.hid (HB.out.trans (b7.mono HB.out.size)); have kw := P7.out.wr; have kr := P7.out.rd; have d7 := D7.out.rd; clear b7))
            rw [conf_set P7.out]
            refine bodyPost_ret (results_cellt rfl _ _ b0 _ _ (0, 0) _ rfl (setObj_at (lt_of_block P7.out) _) Try.underlying29 rfl (by kernel_rfl)) rfl ?_
            have FRS : Fr (fun k => k = b0) w7 (setObj w7 b0 (.cells (coC Bu Co Ou (.slice LA k LC)) 29 (0, 0))) := Fr.setObj (F := fun k => k = b0) (Fr.refl _ _) rfl _
            refine .inl ⟨LA, LC, k, HYES.out, by rw [← HB3.out.1, ← HB3.out.2.1, ← HB3.out.2.2]; rfl, owns_fr9 O7.out FRS (fun gq hq hF => ?_), B7.out.trans (FRS.below B7.out.size (fun k hk => by have := HB0.out; omega))⟩
            obtain ⟨_, _, cx, fx, hx⟩ := owns_typ O7.out gq hq
            rw [hF] at hx
            rw [show _ = _ from P7.out] at hx; injection hx with hx; injection hx with _ hx; revert hx; decide
    · have HNO := Lib.hid (show ∀ k', ¬ DecOK z k' from fun k' h => by
        have h1 := h.1
        have h2 := h.2.2.1
        rw [HNK.out] at h1
        rw [HL.out] at h2
        have h3 := HQ3.out
        exact hlen (by omega))
      have tl : ((n : Int) != (q3 : Int)) = true := by simp; omega
      clear hlen
      go_enter Try.func19, Try.ntmps19
      go_upto_region 1 with (fail)
      obtain ⟨w1, hw1, hbk, hbl, hsz1⟩ := BOX.out
      change Code.wp _ _ _ _ (w.alloc (.cells (coC 0 0 0 (.slice none 0 0)) 29))
      rw [hw1]
      obtain ⟨b0, hb0⟩ : ∃ b0, b0 = w.heap.size := ⟨_, rfl⟩
      rw [← hb0] at hbk ⊢
      have HB0 := Lib.hid hb0
      have K1 := Lib.hid hbk
      have L1 := Lib.hid hbl
      clear hbk hbl hsz1 hw1 hb0
      go_upto_region 4 with (go_at_call 31; ((with_reducible refine (CN3.out _ L1.out).mono ?_); rintro e w2 ⟨rfl, b2⟩; have K2 := Lib.hid (K1.out.keep b2); have L2 := Lib.hid (L1.out.trans (b2.mono L1.out.size)); clear b2))
      have kw := K2.out.wr
      have kr := K2.out.rd
      go_wp2_with (go_at_call 23; ((with_reducible refine (CWN.out _).mono ?_); rintro e w3 ⟨rfl, rfl⟩))
      rw [conf_set K2.out]
      refine bodyPost_ret (results_cellt rfl _ _ b0 _ _ (0, 0) _ rfl (setObj_at (lt_of_block K2.out) _) Try.underlying29 rfl (by kernel_rfl)) rfl ?_
      exact .inr ⟨HNO.out, rfl, L2.out.trans ((Fr.setObj (F := fun k => k = b0) (Fr.refl _ _) rfl _).below L2.out.size (fun k hk => by have := HB0.out; omega))⟩
  · have HNO := Lib.hid (show ∀ k, ¬ DecOK z k from fun k h => by
      have h1 := h.1
      have h2 := h.2.1
      rw [← HNN.out] at h1
      exact hw (by omega))
    have CWN := Lib.hid (within_no N 8 hw)
    clear hw
    go_enter Try.func19, Try.ntmps19
    go_upto_region 1 with (fail)
    obtain ⟨w1, hw1, hbk, hbl, hsz1⟩ := BOX.out
    change Code.wp _ _ _ _ (w.alloc (.cells (coC 0 0 0 (.slice none 0 0)) 29))
    rw [hw1]
    obtain ⟨b0, hb0⟩ : ∃ b0, b0 = w.heap.size := ⟨_, rfl⟩
    rw [← hb0] at hbk ⊢
    have HB0 := Lib.hid hb0
    have K1 := Lib.hid hbk
    have L1 := Lib.hid hbl
    clear hbk hbl hsz1 hw1 hb0
    go_upto_region 4 with (go_at_call 31; ((with_reducible refine (CN3.out _ L1.out).mono ?_); rintro e w2 ⟨rfl, b2⟩; have K2 := Lib.hid (K1.out.keep b2); have L2 := Lib.hid (L1.out.trans (b2.mono L1.out.size)); clear b2))
    have kw := K2.out.wr
    have kr := K2.out.rd
    go_wp2_with (go_at_call 23; ((with_reducible refine (CWN.out _).mono ?_); rintro e w3 ⟨rfl, rfl⟩))
    rw [conf_set K2.out]
    refine bodyPost_ret (results_cellt rfl _ _ b0 _ _ (0, 0) _ rfl (setObj_at (lt_of_block K2.out) _) Try.underlying29 rfl (by kernel_rfl)) rfl ?_
    exact .inr ⟨HNO.out, rfl, L2.out.trans ((Fr.setObj (F := fun k => k = b0) (Fr.refl _ _) rfl _).below L2.out.size (fun k hk => by have := HB0.out; omega))⟩
end Go.Proofs.Ytfpknklnbgmflaa
