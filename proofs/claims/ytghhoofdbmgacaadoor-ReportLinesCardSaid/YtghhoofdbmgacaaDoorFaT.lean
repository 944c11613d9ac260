/- The contracts of layer 13 (frame): what an answer says, more ways. -/
import Derived.Test.YtghhoofdbmgacaaDoorFaS
namespace Go.Proofs.YtghhoofdbmgacaaDoor
set_option linter.unusedSimpArgs false
set_option linter.unusedVariables false
open Go.ChangeShapes Go.WideShapes Go.ChangeAt Go.RowKit Go.Deep
set_option maxHeartbeats 8000000 in
set_option maxRecDepth 100000 in
theorem csaid_ans_no (A : Option Addr) (n c : Nat) (q : List Int) (op : Int) (w : World) (hr : RdI w .u8 A n c q) (h0 : q.getD 0 0 = 128 + op) (hop : 0 ≤ op) (h2 : 2 ≤ n) (ho : op = 1 ∨ op = 2) (h18 : n = 18) (hv : ¬ (1 ≤ q.getD 1 0 ∧ q.getD 1 0 ≤ 3)) :
    Calls Tryd.prog 19 #[.slice A n c] w fun e w' => ∃ sv, e = .returned (.tuple #[sv, .bool false]) ∧ isSd sv ∧ Below w.heap.size w w' := by
  have hcp := hr.cap
  have hmx := hr.max
  unfold maxLen at hmx
  obtain ⟨d, off, rfl, hlt, hc⟩ := hr.at_ (by omega)
  have hby : byt q := fun x hx => wf_u8 (hr.wf x hx)
  have HR := Lib.hid hr
  have HL := Lib.hid hr.len
  have HBY := Lib.hid hby
  have HDL := Lib.hid hlt
  have hb0 := byt_getD hby 0
  have c00 := hc 0 (by omega)
  obtain ⟨y, hy⟩ : ∃ y, y = 128 + op := ⟨_, rfl⟩
  rw [h0, ← hy] at hb0 c00
  rw [Nat.add_zero] at c00
  have e0 : y - 128 = op := by omega
  have e1 : IntKind.u8.wrap op = op := by rw [IntKind.wrap_u8]; omega
  have e2 : IntKind.i64.wrap op = op := by rw [IntKind.wrap_i64]; omega
  have t1 : ¬ (n : Int) < 2 := by omega
  have t2 : ¬ y < 128 := by omega
  have g0 : (0 : Int) < (n : Int) := by omega
  have g1 : (1 : Int) ≤ (n : Int) := by omega
  have g2 : (n : Int) ≤ (c : Int) := by omega
  have g3 : ¬ c = 1 := by omega
  have HY := Lib.hid hy
  have HOP := Lib.hid hop
  clear hr hc hby hy h0 hlt hop
  have HV := Lib.hid hv
  have t12 : (op == 1) = true ∨ ((op == 1) = false ∧ (op == 2) = true) := by rcases ho with rfl | rfl <;> simp
  subst h18
  clear hv ho
  obtain ⟨v, hv⟩ : ∃ x, x = q.getD 1 0 := ⟨_, rfl⟩
  have hvb := byt_getD HBY.out 1
  rw [← hv] at hvb
  have Hv := Lib.hid hv
  have Pv := Lib.hid (show preZ (q.drop 1) 1 = v from by rw [pre1, hv]; simp [List.getD])
  have ev : IntKind.i64.wrap v = v := u64_i64 hvb
  clear hv
  obtain ⟨X, hX⟩ : ∃ x, x = preZ (q.drop 2) 8 := ⟨_, rfl⟩
  have hXb := pre8_bd (byt_drop HBY.out 2)
  rw [← hX] at hXb
  obtain ⟨rem, hrem⟩ : ∃ x, x = num8 (q.drop 2) := ⟨_, rfl⟩
  have eX : IntKind.i64.wrap X = rem := by rw [hrem]; unfold num8; rw [← hX]; exact wrap_sg hXb
  have Hrem := Lib.hid hrem
  have HX := Lib.hid hX
  clear hX hXb hrem
  obtain ⟨Y, hYY⟩ : ∃ x, x = preZ (q.drop 10) 8 := ⟨_, rfl⟩
  have hYb := pre8_bd (byt_drop HBY.out 10)
  rw [← hYY] at hYb
  obtain ⟨ret, hret⟩ : ∃ x, x = num8 (q.drop 10) := ⟨_, rfl⟩
  have eY : IntKind.i64.wrap Y = ret := by rw [hret]; unfold num8; rw [← hYY]; exact wrap_sg hYb
  have Hret := Lib.hid hret
  have HYY := Lib.hid hYY
  clear hYY hYb hret
  rw [← Hv.out] at HV
  go_enter Tryd.func19, Tryd.ntmps19
  go_upto_region 1 with (fail)
  obtain ⟨w1, hw1, hbk, hbl, hsz1⟩ := box_new w (sdC 0 0 0 0 0 0 0 0 0 0 nilV 0) 36
  change Code.wp _ _ _ _ (w.alloc (.cells (sdC 0 0 0 0 0 0 0 0 0 0 nilV 0) 36))
  rw [hw1]
  obtain ⟨b0, hb0⟩ : ∃ b0, b0 = w.heap.size := ⟨_, rfl⟩
  rw [← hb0] at hbk hsz1 ⊢
  have HB0 := Lib.hid hb0
  have BK := Lib.hid hbk
  have BL := Lib.hid hbl
  have S1 := Lib.hid hsz1
  have c01 : w1.cell? ⟨d, off, none⟩ = some (.int .u8 y) := by rw [← c00]; exact hbl.cell (p := ⟨d, off, none⟩) HDL.out
  clear hbk hbl hsz1 hw1 hb0 c00
  go_upto_region 4 with (fail)
  obtain ⟨w2, hw2, hbk, hbl, hsz2⟩ := box_new w1 (sdC op 0 0 0 0 0 0 0 0 0 nilV 0) 36
  change Code.wp _ _ _ _ (w1.alloc (.cells (sdC op 0 0 0 0 0 0 0 0 0 nilV 0) 36))
  rw [hw2]
  obtain ⟨b1, hb1⟩ : ∃ b1, b1 = w1.heap.size := ⟨_, rfl⟩
  rw [← hb1] at hbk hsz2 ⊢
  have HB1 := Lib.hid (show b1 = b0 + 1 from by rw [hb1, S1.out])
  have S2 := Lib.hid hsz2
  have BQ2 := Lib.hid hbk
  have BK2 := Lib.hid (BK.out.keep hbl)
  have BL2 := Lib.hid (BL.out.trans (hbl.mono BL.out.size))
  have R1 := Lib.hid (show RdI w2 .u8 (some ⟨d, off + 1, none⟩) 17 (c - 1) (q.drop 1) from (rdI_end HR.out (m := 1) (by omega)).below BL2.out)
  have HD2 := Lib.hid (show d < w2.heap.size from Nat.lt_of_lt_of_le HDL.out BL2.out.size)
  have HDN := Lib.hid (show d ≠ b1 + 1 ∧ d ≠ b1 ∧ d ≠ b0 from by have h1 := HB0.out; have h2 := HB1.out; have h3 := HDL.out; omega)
  have CR := Lib.hid (reader_any _ _ _ d _ _ R1.out (fun _ => ⟨_, rfl⟩) HD2.out (b1 + 1) S2.out)
  clear hbk hbl hsz2 hw2 hb1 c01
  go_upto_region 5 with (go_at_call 24; ((with_reducible refine CR.out.mono ?_); rintro e w3 ⟨rfl, s3, b3⟩; have S3 := Lib.hid s3; have B3 := Lib.hid b3; clear s3 b3))
  have BK3 := Lib.hid (BK2.out.keep B3.out)
  have BQ3 := Lib.hid (BQ2.out.keep B3.out)
  have BL3 := Lib.hid (BL2.out.trans (B3.out.mono BL2.out.size))
  have NE := Lib.hid (show b0 ≠ b1 ∧ b0 ≠ b1 + 1 ∧ b1 ≠ b1 + 1 ∧ b1 ≠ b0 from by have := HB1.out; omega)
  have k3 := BQ3.out.rd
  have CN1 := Lib.hid (fun (wx : World) (hx : SrcAt wx (b1 + 1) d (q.drop 1)) => next_x (b1 + 1) d (q.drop 1) (q.drop 2) v 1 1 rfl (by omega) (by rw [List.length_drop, HL.out]; omega) (by omega) wx hx HDN.out.1 Pv.out (by rw [List.drop_drop]))
  have CN2 := Lib.hid (fun (wx : World) (hx : SrcAt wx (b1 + 1) d (q.drop 2)) => next_x (b1 + 1) d (q.drop 2) (q.drop 10) X 8 8 rfl (by omega) (by rw [List.length_drop, HL.out]; omega) (by omega) wx hx HDN.out.1 HX.out.symm (by rw [List.drop_drop]))
  have CN3 := Lib.hid (fun (wx : World) (hx : SrcAt wx (b1 + 1) d (q.drop 10)) => next_x (b1 + 1) d (q.drop 10) (q.drop 18) Y 8 8 rfl (by omega) (by rw [List.length_drop, HL.out]; omega) (by omega) wx hx HDN.out.1 HYY.out.symm (by rw [List.drop_drop]))
  rcases t12 with t1 | ⟨t1, t2⟩
  all_goals
    go_upto_region 7 with (first
      | (go_at_call 27; ((with_reducible refine (CN1.out _ S3.out).mono ?_); rintro e w4 ⟨rfl, s4, f4⟩; have S4 := Lib.hid s4; have BK4 := Lib.hid (BK3.out.fr f4 NE.out.2.1); have BQ4 := Lib.hid (BQ3.out.fr f4 NE.out.2.2.1); have BL4 := Lib.hid (BL3.out.trans (f4.below BL3.out.size (fun k hk => by have h1 := HB0.out; have h2 := HB1.out; omega))); have k4 := BQ4.out.rd; have q4 := BQ4.out.wr; clear s4 f4))
      | (go_at_call 27; ((with_reducible refine (CN2.out _ S4.out).mono ?_); rintro e w5 ⟨rfl, s5, f5⟩; have S5 := Lib.hid s5; have BK5 := Lib.hid (BK4.out.fr f5 NE.out.2.1); have BQ5 := Lib.hid (BQ4.out.fr f5 NE.out.2.2.1); have BL5 := Lib.hid (BL4.out.trans (f5.below BL4.out.size (fun k hk => by have h1 := HB0.out; have h2 := HB1.out; omega))); have k5 := BQ5.out.rd; have q5 := BQ5.out.wr; clear s5 f5))
      | (go_at_call 27; ((with_reducible refine (CN3.out _ S5.out).mono ?_); rintro e w6 ⟨rfl, s6, f6⟩; have S6 := Lib.hid s6; have BK6 := Lib.hid (BK5.out.fr f6 NE.out.2.1); have BQ6 := Lib.hid (BQ5.out.fr f6 NE.out.2.2.1); have BL6 := Lib.hid (BL5.out.trans (f6.below BL5.out.size (fun k hk => by have h1 := HB0.out; have h2 := HB1.out; omega))); have k6 := BQ6.out.rd; have q6 := BQ6.out.wr; clear s6 f6)))
    have BQ7 := Lib.hid (show Blk (((w6.setCell ⟨b1, 2, none⟩ (.int .i64 v)).setCell ⟨b1, 3, none⟩ (.int .i64 rem)).setCell ⟨b1, 4, none⟩ (.int .i64 ret)) b1 36 (sdC op 0 v rem ret 0 0 0 0 0 nilV 0) from by rw [blk_row3 (i := 2) BQ6.out]; exact setObj_at (lt_of_block BQ6.out) _)
    have FR7 := Lib.hid (show Fr (fun k => k = b1) w6 (((w6.setCell ⟨b1, 2, none⟩ (.int .i64 v)).setCell ⟨b1, 3, none⟩ (.int .i64 rem)).setCell ⟨b1, 4, none⟩ (.int .i64 ret)) from by rw [blk_row3 (i := 2) BQ6.out]; exact Fr.setObj (F := fun k => k = b1) (Fr.refl _ _) rfl _)
    obtain ⟨w7, hw7⟩ : ∃ w7, w7 = (((w6.setCell ⟨b1, 2, none⟩ (.int .i64 v)).setCell ⟨b1, 3, none⟩ (.int .i64 rem)).setCell ⟨b1, 4, none⟩ (.int .i64 ret)) := ⟨_, rfl⟩
    rw [← hw7] at BQ7 FR7 ⊢
    have BK7 := Lib.hid (show Blk w7 b0 36 (sdC 0 0 0 0 0 0 0 0 0 0 nilV 0) from BK6.out.fr FR7.out NE.out.1)
    have BL7 := Lib.hid (show Below w.heap.size w w7 from (BL6.out.trans (FR7.out.below BL6.out.size (fun k hk => by have h1 := HB0.out; have h2 := HB1.out; omega))))
    have BQ8 := Lib.hid (show Blk w7.drew b1 36 (sdC op 0 v rem ret 0 0 0 0 0 nilV 0) from BQ7.out.drew)
    clear hw7 k3 k4 k5 k6 q4 q5 q6
    have y1 : ∀ i, w7.drew.cell? ⟨b1, i, none⟩ = (sdC op 0 v rem ret 0 0 0 0 0 nilV 0)[i]? := BQ8.out.rd
    have hv0 := HV.out
    by_cases hv1 : (1 : Int) ≤ v
    · skip
      have t5' : decide ((1 : Int) ≤ v) = true := decide_eq_true hv1
      have t6 : ¬ v ≤ (3 : Int) := by omega
      have t6' : decide (v ≤ (3 : Int)) = false := decide_eq_false t6
      clear hv0
      have kw := BK7.out.wr
      have kr := BK7.out.rd
      refine wp_region_held_drew (S := fun w' => ∀ i, w'.cell? ⟨b1, i, none⟩ = (sdC op 0 v rem ret 0 0 0 0 0 nilV 0)[i]?) (by kernel_rfl) y1 (fun hHeld => ?_)
      clear y1
      refine wpAnyH_take (i := 0) (oi := ?_) (v := ?_) ?_ ?_ ?_ ?_ ?_ ?_ ?_ ?_
      rotate_left 2
      · simp only [List.getElem?_toArray, List.getElem?_cons_succ, List.getElem?_cons_zero]; rfl
      · kernel_rfl
      · kernel_rfl
      · kernel_rfl
      · exact fun _ _ _ h => h
      · refine Or.inl ⟨by rfl, ?_⟩
        intro w' hSw
        (try dsimp only at hSw)
        go_simp
        all_goals (with_reducible rfl)
      · assumption
      try simp only [Act.put, List.setIfInBounds_toArray, List.set_cons_zero, List.set_cons_succ]
      refine wpAnyH_take (i := 1) (oi := ?_) (v := ?_) ?_ ?_ ?_ ?_ ?_ ?_ ?_ ?_
      rotate_left 2
      · simp only [List.getElem?_toArray, List.getElem?_cons_succ, List.getElem?_cons_zero]; rfl
      · kernel_rfl
      · kernel_rfl
      · kernel_rfl
      · exact fun _ _ _ h => h
      · refine Or.inl ⟨by rfl, ?_⟩
        intro w' hSw
        (try dsimp only at hSw)
        go_simp
        all_goals (with_reducible rfl)
      · assumption
      try simp only [Act.put, List.setIfInBounds_toArray, List.set_cons_zero, List.set_cons_succ]
      refine wpAnyH_take (i := 2) (oi := ?_) (v := ?_) ?_ ?_ ?_ ?_ ?_ ?_ ?_ ?_
      rotate_left 2
      · simp only [List.getElem?_toArray, List.getElem?_cons_succ, List.getElem?_cons_zero]; rfl
      · kernel_rfl
      · kernel_rfl
      · kernel_rfl
      · exact fun _ _ _ h => h
      · refine Or.inl ⟨by rfl, ?_⟩
        intro w' hSw
        (try dsimp only at hSw)
        go_simp
        all_goals (with_reducible rfl)
      · assumption
      try simp only [Act.put, List.setIfInBounds_toArray, List.set_cons_zero, List.set_cons_succ]
      refine wpAnyH_take (i := 3) (oi := ?_) (v := ?_) ?_ ?_ ?_ ?_ ?_ ?_ ?_ ?_
      rotate_left 2
      · simp only [List.getElem?_toArray, List.getElem?_cons_succ, List.getElem?_cons_zero]; rfl
      · kernel_rfl
      · kernel_rfl
      · kernel_rfl
      · exact fun _ _ _ h => h
      · refine Or.inl ⟨by rfl, ?_⟩
        intro w' hSw
        (try dsimp only at hSw)
        go_simp
        all_goals (with_reducible rfl)
      · assumption
      try simp only [Act.put, List.setIfInBounds_toArray, List.set_cons_zero, List.set_cons_succ]
      refine wpAnyH_take (i := 4) (oi := ?_) (v := ?_) ?_ ?_ ?_ ?_ ?_ ?_ ?_ ?_
      rotate_left 2
      · simp only [List.getElem?_toArray, List.getElem?_cons_succ, List.getElem?_cons_zero]; rfl
      · kernel_rfl
      · kernel_rfl
      · kernel_rfl
      · exact fun _ _ _ h => h
      · refine Or.inl ⟨by rfl, ?_⟩
        intro w' hSw
        (try dsimp only at hSw)
        go_simp
        all_goals (with_reducible rfl)
      · assumption
      try simp only [Act.put, List.setIfInBounds_toArray, List.set_cons_zero, List.set_cons_succ]
      refine wpAnyH_take (i := 5) (oi := ?_) (v := ?_) ?_ ?_ ?_ ?_ ?_ ?_ ?_ ?_
      rotate_left 2
      · simp only [List.getElem?_toArray, List.getElem?_cons_succ, List.getElem?_cons_zero]; rfl
      · kernel_rfl
      · kernel_rfl
      · kernel_rfl
      · exact fun _ _ _ h => h
      · refine Or.inl ⟨by rfl, ?_⟩
        intro w' hSw
        (try dsimp only at hSw)
        go_simp
        all_goals (with_reducible rfl)
      · assumption
      try simp only [Act.put, List.setIfInBounds_toArray, List.set_cons_zero, List.set_cons_succ]
      refine wpAnyH_take (i := 6) (oi := ?_) (v := ?_) ?_ ?_ ?_ ?_ ?_ ?_ ?_ ?_
      rotate_left 2
      · simp only [List.getElem?_toArray, List.getElem?_cons_succ, List.getElem?_cons_zero]; rfl
      · kernel_rfl
      · kernel_rfl
      · kernel_rfl
      · exact fun _ _ _ h => h
      · refine Or.inl ⟨by rfl, ?_⟩
        intro w' hSw
        (try dsimp only at hSw)
        go_simp
        all_goals (with_reducible rfl)
      · assumption
      try simp only [Act.put, List.setIfInBounds_toArray, List.set_cons_zero, List.set_cons_succ]
      refine wpAnyH_take (i := 7) (oi := ?_) (v := ?_) ?_ ?_ ?_ ?_ ?_ ?_ ?_ ?_
      rotate_left 2
      · simp only [List.getElem?_toArray, List.getElem?_cons_succ, List.getElem?_cons_zero]; rfl
      · kernel_rfl
      · kernel_rfl
      · kernel_rfl
      · exact fun _ _ _ h => h
      · refine Or.inl ⟨by rfl, ?_⟩
        intro w' hSw
        (try dsimp only at hSw)
        go_simp
        all_goals (with_reducible rfl)
      · assumption
      try simp only [Act.put, List.setIfInBounds_toArray, List.set_cons_zero, List.set_cons_succ]
      refine wpAnyH_take (i := 8) (oi := ?_) (v := ?_) ?_ ?_ ?_ ?_ ?_ ?_ ?_ ?_
      rotate_left 2
      · simp only [List.getElem?_toArray, List.getElem?_cons_succ, List.getElem?_cons_zero]; rfl
      · kernel_rfl
      · kernel_rfl
      · kernel_rfl
      · exact fun _ _ _ h => h
      · refine Or.inl ⟨by rfl, ?_⟩
        intro w' hSw
        (try dsimp only at hSw)
        go_simp
        all_goals (with_reducible rfl)
      · assumption
      try simp only [Act.put, List.setIfInBounds_toArray, List.set_cons_zero, List.set_cons_succ]
      refine wpAnyH_take (i := 9) (oi := ?_) (v := ?_) ?_ ?_ ?_ ?_ ?_ ?_ ?_ ?_
      rotate_left 2
      · simp only [List.getElem?_toArray, List.getElem?_cons_succ, List.getElem?_cons_zero]; rfl
      · kernel_rfl
      · kernel_rfl
      · kernel_rfl
      · exact fun _ _ _ h => h
      · refine Or.inl ⟨by rfl, ?_⟩
        intro w' hSw
        (try dsimp only at hSw)
        go_simp
        all_goals (with_reducible rfl)
      · assumption
      try simp only [Act.put, List.setIfInBounds_toArray, List.set_cons_zero, List.set_cons_succ]
      refine wpAnyH_take (i := 10) (oi := ?_) (v := ?_) ?_ ?_ ?_ ?_ ?_ ?_ ?_ ?_
      rotate_left 2
      · simp only [List.getElem?_toArray, List.getElem?_cons_succ, List.getElem?_cons_zero]; rfl
      · kernel_rfl
      · kernel_rfl
      · kernel_rfl
      · exact fun _ _ _ h => h
      · refine Or.inl ⟨by rfl, ?_⟩
        intro w' hSw
        (try dsimp only at hSw)
        go_simp
        all_goals (with_reducible rfl)
      · assumption
      try simp only [Act.put, List.setIfInBounds_toArray, List.set_cons_zero, List.set_cons_succ]
      refine wpAnyH_ready (rs := [11]) (by kernel_rfl) (by simp) ?_
      refine AllReadyH.cons (o := ?_) ?_ ?_ ?_
      rotate_left 1
      · simp only [List.getElem?_toArray, List.getElem?_cons_succ, List.getElem?_cons_zero]; rfl
      rotate_left 1
      · exact AllReadyH.nil
      intro K hK
      go_simp
      skip
      refine hK.out _ _ (by rw [twelve_set BK7.out]; exact (Blk.drew (BQ7.out.fr (Fr.setObj (F := fun k => k = b0) (Fr.refl _ _) rfl _) NE.out.2.2.2)).rd) (fun hHeld => ?_)
      clear hK K
      try simp only [Act.put, List.setIfInBounds_toArray, List.set_cons_zero, List.set_cons_succ]
      refine wpAnyH_take (i := 12) (oi := ?_) (v := ?_) ?_ ?_ ?_ ?_ ?_ ?_ ?_ ?_
      rotate_left 2
      · simp only [List.getElem?_toArray, List.getElem?_cons_succ, List.getElem?_cons_zero]; rfl
      · kernel_rfl
      · kernel_rfl
      · kernel_rfl
      · exact fun _ _ _ h => h
      · refine Or.inl ⟨by rfl, ?_⟩
        intro w' hSw
        (try dsimp only at hSw)
        go_simp
        all_goals (with_reducible rfl)
      · assumption
      try simp only [Act.put, List.setIfInBounds_toArray, List.set_cons_zero, List.set_cons_succ]
      refine wpAnyH_done (by kernel_rfl) ?_ _
      clear kw kr hHeld
      go_wp2
      rw [twelve_set BK7.out]
      refine bodyPost_ret (results_cellt rfl _ _ b0 _ _ (0, 0) _ rfl (setObj_at (lt_of_block BK7.out) _) Tryd.underlying36 rfl (by kernel_rfl)) rfl ?_
      first | exact ⟨rfl, below_draws (BL7.out.trans ((Fr.setObj (F := fun k => k = b0) (Fr.refl _ _) rfl _).below BL7.out.size (fun k hk => by have := HB0.out; omega))) 1⟩ | exact ⟨_, rfl, isSd_mk _ _ _ _ _ _ _ _ _ _ _ _ _ _, below_draws (BL7.out.trans ((Fr.setObj (F := fun k => k = b0) (Fr.refl _ _) rfl _).below BL7.out.size (fun k hk => by have := HB0.out; omega))) 1⟩ | exact ⟨isSd_mk _ _ _ _ _ _ _ _ _ _ _ _ _ _, below_draws (BL7.out.trans ((Fr.setObj (F := fun k => k = b0) (Fr.refl _ _) rfl _).below BL7.out.size (fun k hk => by have := HB0.out; omega))) 1⟩
    · skip
      have t5' : decide ((1 : Int) ≤ v) = false := decide_eq_false hv1
      clear hv0
      have kw := BK7.out.wr
      have kr := BK7.out.rd
      refine wp_region_held_drew (S := fun w' => ∀ i, w'.cell? ⟨b1, i, none⟩ = (sdC op 0 v rem ret 0 0 0 0 0 nilV 0)[i]?) (by kernel_rfl) y1 (fun hHeld => ?_)
      clear y1
      refine wpAnyH_take (i := 0) (oi := ?_) (v := ?_) ?_ ?_ ?_ ?_ ?_ ?_ ?_ ?_
      rotate_left 2
      · simp only [List.getElem?_toArray, List.getElem?_cons_succ, List.getElem?_cons_zero]; rfl
      · kernel_rfl
      · kernel_rfl
      · kernel_rfl
      · exact fun _ _ _ h => h
      · refine Or.inl ⟨by rfl, ?_⟩
        intro w' hSw
        (try dsimp only at hSw)
        go_simp
        all_goals (with_reducible rfl)
      · assumption
      try simp only [Act.put, List.setIfInBounds_toArray, List.set_cons_zero, List.set_cons_succ]
      refine wpAnyH_take (i := 1) (oi := ?_) (v := ?_) ?_ ?_ ?_ ?_ ?_ ?_ ?_ ?_
      rotate_left 2
      · simp only [List.getElem?_toArray, List.getElem?_cons_succ, List.getElem?_cons_zero]; rfl
      · kernel_rfl
      · kernel_rfl
      · kernel_rfl
      · exact fun _ _ _ h => h
      · refine Or.inl ⟨by rfl, ?_⟩
        intro w' hSw
        (try dsimp only at hSw)
        go_simp
        all_goals (with_reducible rfl)
      · assumption
      try simp only [Act.put, List.setIfInBounds_toArray, List.set_cons_zero, List.set_cons_succ]
      refine wpAnyH_take (i := 2) (oi := ?_) (v := ?_) ?_ ?_ ?_ ?_ ?_ ?_ ?_ ?_
      rotate_left 2
      · simp only [List.getElem?_toArray, List.getElem?_cons_succ, List.getElem?_cons_zero]; rfl
      · kernel_rfl
      · kernel_rfl
      · kernel_rfl
      · exact fun _ _ _ h => h
      · refine Or.inl ⟨by rfl, ?_⟩
        intro w' hSw
        (try dsimp only at hSw)
        go_simp
        all_goals (with_reducible rfl)
      · assumption
      try simp only [Act.put, List.setIfInBounds_toArray, List.set_cons_zero, List.set_cons_succ]
      refine wpAnyH_take (i := 3) (oi := ?_) (v := ?_) ?_ ?_ ?_ ?_ ?_ ?_ ?_ ?_
      rotate_left 2
      · simp only [List.getElem?_toArray, List.getElem?_cons_succ, List.getElem?_cons_zero]; rfl
      · kernel_rfl
      · kernel_rfl
      · kernel_rfl
      · exact fun _ _ _ h => h
      · refine Or.inl ⟨by rfl, ?_⟩
        intro w' hSw
        (try dsimp only at hSw)
        go_simp
        all_goals (with_reducible rfl)
      · assumption
      try simp only [Act.put, List.setIfInBounds_toArray, List.set_cons_zero, List.set_cons_succ]
      refine wpAnyH_take (i := 4) (oi := ?_) (v := ?_) ?_ ?_ ?_ ?_ ?_ ?_ ?_ ?_
      rotate_left 2
      · simp only [List.getElem?_toArray, List.getElem?_cons_succ, List.getElem?_cons_zero]; rfl
      · kernel_rfl
      · kernel_rfl
      · kernel_rfl
      · exact fun _ _ _ h => h
      · refine Or.inl ⟨by rfl, ?_⟩
        intro w' hSw
        (try dsimp only at hSw)
        go_simp
        all_goals (with_reducible rfl)
      · assumption
      try simp only [Act.put, List.setIfInBounds_toArray, List.set_cons_zero, List.set_cons_succ]
      refine wpAnyH_take (i := 5) (oi := ?_) (v := ?_) ?_ ?_ ?_ ?_ ?_ ?_ ?_ ?_
      rotate_left 2
      · simp only [List.getElem?_toArray, List.getElem?_cons_succ, List.getElem?_cons_zero]; rfl
      · kernel_rfl
      · kernel_rfl
      · kernel_rfl
      · exact fun _ _ _ h => h
      · refine Or.inl ⟨by rfl, ?_⟩
        intro w' hSw
        (try dsimp only at hSw)
        go_simp
        all_goals (with_reducible rfl)
      · assumption
      try simp only [Act.put, List.setIfInBounds_toArray, List.set_cons_zero, List.set_cons_succ]
      refine wpAnyH_take (i := 6) (oi := ?_) (v := undef) ?_ ?_ ?_ ?_ ?_ ?_ ?_ ?_
      rotate_left 1
      · simp only [List.getElem?_toArray, List.getElem?_cons_succ, List.getElem?_cons_zero]; rfl
      · kernel_rfl
      · kernel_rfl
      · kernel_rfl
      · exact fun _ _ _ h => h
      · exact Or.inr ⟨by kernel_rfl, rfl⟩
      · assumption
      try simp only [Act.put, List.setIfInBounds_toArray, List.set_cons_zero, List.set_cons_succ]
      refine wpAnyH_take (i := 7) (oi := ?_) (v := undef) ?_ ?_ ?_ ?_ ?_ ?_ ?_ ?_
      rotate_left 1
      · simp only [List.getElem?_toArray, List.getElem?_cons_succ, List.getElem?_cons_zero]; rfl
      · kernel_rfl
      · kernel_rfl
      · kernel_rfl
      · exact fun _ _ _ h => h
      · exact Or.inr ⟨by kernel_rfl, rfl⟩
      · assumption
      try simp only [Act.put, List.setIfInBounds_toArray, List.set_cons_zero, List.set_cons_succ]
      refine wpAnyH_take (i := 8) (oi := ?_) (v := undef) ?_ ?_ ?_ ?_ ?_ ?_ ?_ ?_
      rotate_left 1
      · simp only [List.getElem?_toArray, List.getElem?_cons_succ, List.getElem?_cons_zero]; rfl
      · kernel_rfl
      · kernel_rfl
      · kernel_rfl
      · exact fun _ _ _ h => h
      · exact Or.inr ⟨by kernel_rfl, rfl⟩
      · assumption
      try simp only [Act.put, List.setIfInBounds_toArray, List.set_cons_zero, List.set_cons_succ]
      refine wpAnyH_take (i := 9) (oi := ?_) (v := undef) ?_ ?_ ?_ ?_ ?_ ?_ ?_ ?_
      rotate_left 1
      · simp only [List.getElem?_toArray, List.getElem?_cons_succ, List.getElem?_cons_zero]; rfl
      · kernel_rfl
      · kernel_rfl
      · kernel_rfl
      · exact fun _ _ _ h => h
      · exact Or.inr ⟨by kernel_rfl, rfl⟩
      · assumption
      try simp only [Act.put, List.setIfInBounds_toArray, List.set_cons_zero, List.set_cons_succ]
      refine wpAnyH_take (i := 10) (oi := ?_) (v := ?_) ?_ ?_ ?_ ?_ ?_ ?_ ?_ ?_
      rotate_left 2
      · simp only [List.getElem?_toArray, List.getElem?_cons_succ, List.getElem?_cons_zero]; rfl
      · kernel_rfl
      · kernel_rfl
      · kernel_rfl
      · exact fun _ _ _ h => h
      · refine Or.inl ⟨by rfl, ?_⟩
        intro w' hSw
        (try dsimp only at hSw)
        go_simp
        all_goals (with_reducible rfl)
      · assumption
      try simp only [Act.put, List.setIfInBounds_toArray, List.set_cons_zero, List.set_cons_succ]
      refine wpAnyH_ready (rs := [11]) (by kernel_rfl) (by simp) ?_
      refine AllReadyH.cons (o := ?_) ?_ ?_ ?_
      rotate_left 1
      · simp only [List.getElem?_toArray, List.getElem?_cons_succ, List.getElem?_cons_zero]; rfl
      rotate_left 1
      · exact AllReadyH.nil
      intro K hK
      go_simp
      skip
      refine hK.out _ _ (by rw [twelve_set BK7.out]; exact (Blk.drew (BQ7.out.fr (Fr.setObj (F := fun k => k = b0) (Fr.refl _ _) rfl _) NE.out.2.2.2)).rd) (fun hHeld => ?_)
      clear hK K
      try simp only [Act.put, List.setIfInBounds_toArray, List.set_cons_zero, List.set_cons_succ]
      refine wpAnyH_take (i := 12) (oi := ?_) (v := ?_) ?_ ?_ ?_ ?_ ?_ ?_ ?_ ?_
      rotate_left 2
      · simp only [List.getElem?_toArray, List.getElem?_cons_succ, List.getElem?_cons_zero]; rfl
      · kernel_rfl
      · kernel_rfl
      · kernel_rfl
      · exact fun _ _ _ h => h
      · refine Or.inl ⟨by rfl, ?_⟩
        intro w' hSw
        (try dsimp only at hSw)
        go_simp
        all_goals (with_reducible rfl)
      · assumption
      try simp only [Act.put, List.setIfInBounds_toArray, List.set_cons_zero, List.set_cons_succ]
      refine wpAnyH_done (by kernel_rfl) ?_ _
      clear kw kr hHeld
      go_wp2
      rw [twelve_set BK7.out]
      refine bodyPost_ret (results_cellt rfl _ _ b0 _ _ (0, 0) _ rfl (setObj_at (lt_of_block BK7.out) _) Tryd.underlying36 rfl (by kernel_rfl)) rfl ?_
      first | exact ⟨rfl, below_draws (BL7.out.trans ((Fr.setObj (F := fun k => k = b0) (Fr.refl _ _) rfl _).below BL7.out.size (fun k hk => by have := HB0.out; omega))) 1⟩ | exact ⟨_, rfl, isSd_mk _ _ _ _ _ _ _ _ _ _ _ _ _ _, below_draws (BL7.out.trans ((Fr.setObj (F := fun k => k = b0) (Fr.refl _ _) rfl _).below BL7.out.size (fun k hk => by have := HB0.out; omega))) 1⟩ | exact ⟨isSd_mk _ _ _ _ _ _ _ _ _ _ _ _ _ _, below_draws (BL7.out.trans ((Fr.setObj (F := fun k => k = b0) (Fr.refl _ _) rfl _).below BL7.out.size (fun k hk => by have := HB0.out; omega))) 1⟩
set_option maxHeartbeats 8000000 in
set_option maxRecDepth 100000 in
theorem csaid_tot (A : Option Addr) (n c : Nat) (q : List Int) (op : Int) (w : World) (hr : RdI w .u8 A n c q) (h0 : q.getD 0 0 = 128 + op) (hop : 0 ≤ op) (h2 : 2 ≤ n) (ho : op = 3) (h42 : n = 42) :
    Calls Tryd.prog 19 #[.slice A n c] w fun e w' => e = .returned (.tuple #[.agg (sdC op (q.getD 1 0) 0 0 0 (num8 (q.drop 2)) (num8 (q.drop 10)) (num8 (q.drop 18)) (num8 (q.drop 26)) (num8 (q.drop 34)) nilV 0), .bool true]) ∧ Below w.heap.size w w' := by
  have hcp := hr.cap
  have hmx := hr.max
  unfold maxLen at hmx
  obtain ⟨d, off, rfl, hlt, hc⟩ := hr.at_ (by omega)
  have hby : byt q := fun x hx => wf_u8 (hr.wf x hx)
  have HR := Lib.hid hr
  have HL := Lib.hid hr.len
  have HBY := Lib.hid hby
  have HDL := Lib.hid hlt
  have hb0 := byt_getD hby 0
  have c00 := hc 0 (by omega)
  obtain ⟨y, hy⟩ : ∃ y, y = 128 + op := ⟨_, rfl⟩
  rw [h0, ← hy] at hb0 c00
  rw [Nat.add_zero] at c00
  have e0 : y - 128 = op := by omega
  have e1 : IntKind.u8.wrap op = op := by rw [IntKind.wrap_u8]; omega
  have e2 : IntKind.i64.wrap op = op := by rw [IntKind.wrap_i64]; omega
  have t1 : ¬ (n : Int) < 2 := by omega
  have t2 : ¬ y < 128 := by omega
  have g0 : (0 : Int) < (n : Int) := by omega
  have g1 : (1 : Int) ≤ (n : Int) := by omega
  have g2 : (n : Int) ≤ (c : Int) := by omega
  have g3 : ¬ c = 1 := by omega
  have HY := Lib.hid hy
  have HOP := Lib.hid hop
  clear hr hc hby hy h0 hlt hop
  have t3 : (op == 1) = false := by rw [ho]; rfl
  have t4 : (op == 2) = false := by rw [ho]; rfl
  have t5 : (op == 3) = true := by rw [ho]; rfl
  subst h42
  clear ho
  obtain ⟨v, hv⟩ : ∃ x, x = q.getD 1 0 := ⟨_, rfl⟩
  have hvb := byt_getD HBY.out 1
  rw [← hv] at hvb
  have Hv := Lib.hid hv
  have Pv := Lib.hid (show preZ (q.drop 1) 1 = v from by rw [pre1, hv]; simp [List.getD])
  have ev : IntKind.i64.wrap v = v := u64_i64 hvb
  clear hv
  obtain ⟨X, hX⟩ : ∃ x, x = preZ (q.drop 2) 8 := ⟨_, rfl⟩
  have hXb := pre8_bd (byt_drop HBY.out 2)
  rw [← hX] at hXb
  obtain ⟨va, hva⟩ : ∃ x, x = num8 (q.drop 2) := ⟨_, rfl⟩
  have eX : IntKind.i64.wrap X = va := by rw [hva]; unfold num8; rw [← hX]; exact wrap_sg hXb
  have Hva := Lib.hid hva
  have HX := Lib.hid hX
  clear hX hXb hva
  obtain ⟨X2, hX2⟩ : ∃ x, x = preZ (q.drop 10) 8 := ⟨_, rfl⟩
  have hX2b := pre8_bd (byt_drop HBY.out 10)
  rw [← hX2] at hX2b
  obtain ⟨vd, hvd⟩ : ∃ x, x = num8 (q.drop 10) := ⟨_, rfl⟩
  have eX2 : IntKind.i64.wrap X2 = vd := by rw [hvd]; unfold num8; rw [← hX2]; exact wrap_sg hX2b
  have Hvd := Lib.hid hvd
  have HX2 := Lib.hid hX2
  clear hX2 hX2b hvd
  obtain ⟨X3, hX3⟩ : ∃ x, x = preZ (q.drop 18) 8 := ⟨_, rfl⟩
  have hX3b := pre8_bd (byt_drop HBY.out 18)
  rw [← hX3] at hX3b
  obtain ⟨vb, hvb⟩ : ∃ x, x = num8 (q.drop 18) := ⟨_, rfl⟩
  have eX3 : IntKind.i64.wrap X3 = vb := by rw [hvb]; unfold num8; rw [← hX3]; exact wrap_sg hX3b
  have Hvb := Lib.hid hvb
  have HX3 := Lib.hid hX3
  clear hX3 hX3b hvb
  obtain ⟨X4, hX4⟩ : ∃ x, x = preZ (q.drop 26) 8 := ⟨_, rfl⟩
  have hX4b := pre8_bd (byt_drop HBY.out 26)
  rw [← hX4] at hX4b
  obtain ⟨vc, hvc⟩ : ∃ x, x = num8 (q.drop 26) := ⟨_, rfl⟩
  have eX4 : IntKind.i64.wrap X4 = vc := by rw [hvc]; unfold num8; rw [← hX4]; exact wrap_sg hX4b
  have Hvc := Lib.hid hvc
  have HX4 := Lib.hid hX4
  clear hX4 hX4b hvc
  obtain ⟨X5, hX5⟩ : ∃ x, x = preZ (q.drop 34) 8 := ⟨_, rfl⟩
  have hX5b := pre8_bd (byt_drop HBY.out 34)
  rw [← hX5] at hX5b
  obtain ⟨vw, hvw⟩ : ∃ x, x = num8 (q.drop 34) := ⟨_, rfl⟩
  have eX5 : IntKind.i64.wrap X5 = vw := by rw [hvw]; unfold num8; rw [← hX5]; exact wrap_sg hX5b
  have Hvw := Lib.hid hvw
  have HX5 := Lib.hid hX5
  clear hX5 hX5b hvw
  rw [← Hv.out, ← Hva.out, ← Hvd.out, ← Hvb.out, ← Hvc.out, ← Hvw.out]
  go_enter Tryd.func19, Tryd.ntmps19
  go_upto_region 1 with (fail)
  obtain ⟨w1, hw1, hbk, hbl, hsz1⟩ := box_new w (sdC 0 0 0 0 0 0 0 0 0 0 nilV 0) 36
  change Code.wp _ _ _ _ (w.alloc (.cells (sdC 0 0 0 0 0 0 0 0 0 0 nilV 0) 36))
  rw [hw1]
  obtain ⟨b0, hb0⟩ : ∃ b0, b0 = w.heap.size := ⟨_, rfl⟩
  rw [← hb0] at hbk hsz1 ⊢
  have HB0 := Lib.hid hb0
  have BK := Lib.hid hbk
  have BL := Lib.hid hbl
  have S1 := Lib.hid hsz1
  have c01 : w1.cell? ⟨d, off, none⟩ = some (.int .u8 y) := by rw [← c00]; exact hbl.cell (p := ⟨d, off, none⟩) HDL.out
  clear hbk hbl hsz1 hw1 hb0 c00
  go_upto_region 4 with (fail)
  obtain ⟨w2, hw2, hbk, hbl, hsz2⟩ := box_new w1 (sdC op 0 0 0 0 0 0 0 0 0 nilV 0) 36
  change Code.wp _ _ _ _ (w1.alloc (.cells (sdC op 0 0 0 0 0 0 0 0 0 nilV 0) 36))
  rw [hw2]
  obtain ⟨b1, hb1⟩ : ∃ b1, b1 = w1.heap.size := ⟨_, rfl⟩
  rw [← hb1] at hbk hsz2 ⊢
  have HB1 := Lib.hid (show b1 = b0 + 1 from by rw [hb1, S1.out])
  have S2 := Lib.hid hsz2
  have BQ2 := Lib.hid hbk
  have BK2 := Lib.hid (BK.out.keep hbl)
  have BL2 := Lib.hid (BL.out.trans (hbl.mono BL.out.size))
  have R1 := Lib.hid (show RdI w2 .u8 (some ⟨d, off + 1, none⟩) 41 (c - 1) (q.drop 1) from (rdI_end HR.out (m := 1) (by omega)).below BL2.out)
  have HD2 := Lib.hid (show d < w2.heap.size from Nat.lt_of_lt_of_le HDL.out BL2.out.size)
  have HDN := Lib.hid (show d ≠ b1 + 1 ∧ d ≠ b1 ∧ d ≠ b0 from by have h1 := HB0.out; have h2 := HB1.out; have h3 := HDL.out; omega)
  have CR := Lib.hid (reader_any _ _ _ d _ _ R1.out (fun _ => ⟨_, rfl⟩) HD2.out (b1 + 1) S2.out)
  clear hbk hbl hsz2 hw2 hb1 c01
  go_upto_region 5 with (go_at_call 24; ((with_reducible refine CR.out.mono ?_); rintro e w3 ⟨rfl, s3, b3⟩; have S3 := Lib.hid s3; have B3 := Lib.hid b3; clear s3 b3))
  have BK3 := Lib.hid (BK2.out.keep B3.out)
  have BQ3 := Lib.hid (BQ2.out.keep B3.out)
  have BL3 := Lib.hid (BL2.out.trans (B3.out.mono BL2.out.size))
  have NE := Lib.hid (show b0 ≠ b1 ∧ b0 ≠ b1 + 1 ∧ b1 ≠ b1 + 1 ∧ b1 ≠ b0 from by have := HB1.out; omega)
  have k3 := BQ3.out.rd
  have CN1 := Lib.hid (fun (wx : World) (hx : SrcAt wx (b1 + 1) d (q.drop 1)) => next_x (b1 + 1) d (q.drop 1) (q.drop 2) v 1 1 rfl (by omega) (by rw [List.length_drop, HL.out]; omega) (by omega) wx hx HDN.out.1 Pv.out (by rw [List.drop_drop]))
  have CN2 := Lib.hid (fun (wx : World) (hx : SrcAt wx (b1 + 1) d (q.drop 2)) => next_x (b1 + 1) d (q.drop 2) (q.drop 10) X 8 8 rfl (by omega) (by rw [List.length_drop, HL.out]; omega) (by omega) wx hx HDN.out.1 HX.out.symm (by rw [List.drop_drop]))
  have CN3 := Lib.hid (fun (wx : World) (hx : SrcAt wx (b1 + 1) d (q.drop 10)) => next_x (b1 + 1) d (q.drop 10) (q.drop 18) X2 8 8 rfl (by omega) (by rw [List.length_drop, HL.out]; omega) (by omega) wx hx HDN.out.1 HX2.out.symm (by rw [List.drop_drop]))
  have CN4 := Lib.hid (fun (wx : World) (hx : SrcAt wx (b1 + 1) d (q.drop 18)) => next_x (b1 + 1) d (q.drop 18) (q.drop 26) X3 8 8 rfl (by omega) (by rw [List.length_drop, HL.out]; omega) (by omega) wx hx HDN.out.1 HX3.out.symm (by rw [List.drop_drop]))
  have CN5 := Lib.hid (fun (wx : World) (hx : SrcAt wx (b1 + 1) d (q.drop 26)) => next_x (b1 + 1) d (q.drop 26) (q.drop 34) X4 8 8 rfl (by omega) (by rw [List.length_drop, HL.out]; omega) (by omega) wx hx HDN.out.1 HX4.out.symm (by rw [List.drop_drop]))
  have CN6 := Lib.hid (fun (wx : World) (hx : SrcAt wx (b1 + 1) d (q.drop 34)) => next_x (b1 + 1) d (q.drop 34) (q.drop 42) X5 8 8 rfl (by omega) (by rw [List.length_drop, HL.out]; omega) (by omega) wx hx HDN.out.1 HX5.out.symm (by rw [List.drop_drop]))
  go_upto_region 10 with (first
    | (go_at_call 27; ((with_reducible refine (CN1.out _ S3.out).mono ?_); rintro e w4 ⟨rfl, s4, f4⟩; have S4 := Lib.hid s4; have BK4 := Lib.hid (BK3.out.fr f4 NE.out.2.1); have BQ4 := Lib.hid (BQ3.out.fr f4 NE.out.2.2.1); have BL4 := Lib.hid (BL3.out.trans (f4.below BL3.out.size (fun k hk => by have h1 := HB0.out; have h2 := HB1.out; omega))); have k4 := BQ4.out.rd; have q4 := BQ4.out.wr; clear s4 f4)))
  have BQ5 := Lib.hid (show Blk (w4.setCell ⟨b1, 1, none⟩ (.int .i64 v)) b1 36 (sdC op v 0 0 0 0 0 0 0 0 nilV 0) from by rw [setCell_obj BQ4.out]; exact setObj_at (lt_of_block BQ4.out) _)
  have FR5 := Lib.hid (fr_set (i := 1) (v := .int .i64 v) BQ4.out)
  obtain ⟨w5, hw5⟩ : ∃ w5, w5 = (w4.setCell ⟨b1, 1, none⟩ (.int .i64 v)) := ⟨_, rfl⟩
  rw [← hw5] at BQ5 FR5 ⊢
  have BK5 := Lib.hid (BK4.out.fr FR5.out NE.out.1)
  have S5 := Lib.hid (S4.out.fr FR5.out (fun e => NE.out.2.2.1 e.symm) HDN.out.2.1)
  have BL5 := Lib.hid (BL4.out.trans (FR5.out.below BL4.out.size (fun k hk => by have h1 := HB0.out; have h2 := HB1.out; omega)))
  have k5 := BQ5.out.rd
  clear hw5 k3 k4 q4
  go_upto_region 11 with (first
    | (go_at_call 27; ((with_reducible refine (CN2.out _ S5.out).mono ?_); rintro e w6 ⟨rfl, s6, f6⟩; have S6 := Lib.hid s6; have BK6 := Lib.hid (BK5.out.fr f6 NE.out.2.1); have BQ6 := Lib.hid (BQ5.out.fr f6 NE.out.2.2.1); have BL6 := Lib.hid (BL5.out.trans (f6.below BL5.out.size (fun k hk => by have h1 := HB0.out; have h2 := HB1.out; omega))); have k6 := BQ6.out.rd; have q6 := BQ6.out.wr; clear s6 f6))
    | (go_at_call 27; ((with_reducible refine (CN3.out _ S6.out).mono ?_); rintro e w7 ⟨rfl, s7, f7⟩; have S7 := Lib.hid s7; have BK7 := Lib.hid (BK6.out.fr f7 NE.out.2.1); have BQ7 := Lib.hid (BQ6.out.fr f7 NE.out.2.2.1); have BL7 := Lib.hid (BL6.out.trans (f7.below BL6.out.size (fun k hk => by have h1 := HB0.out; have h2 := HB1.out; omega))); have k7 := BQ7.out.rd; have q7 := BQ7.out.wr; clear s7 f7))
    | (go_at_call 27; ((with_reducible refine (CN4.out _ S7.out).mono ?_); rintro e w8 ⟨rfl, s8, f8⟩; have S8 := Lib.hid s8; have BK8 := Lib.hid (BK7.out.fr f8 NE.out.2.1); have BQ8 := Lib.hid (BQ7.out.fr f8 NE.out.2.2.1); have BL8 := Lib.hid (BL7.out.trans (f8.below BL7.out.size (fun k hk => by have h1 := HB0.out; have h2 := HB1.out; omega))); have k8 := BQ8.out.rd; have q8 := BQ8.out.wr; clear s8 f8))
    | (go_at_call 27; ((with_reducible refine (CN5.out _ S8.out).mono ?_); rintro e w9 ⟨rfl, s9, f9⟩; have S9 := Lib.hid s9; have BK9 := Lib.hid (BK8.out.fr f9 NE.out.2.1); have BQ9 := Lib.hid (BQ8.out.fr f9 NE.out.2.2.1); have BL9 := Lib.hid (BL8.out.trans (f9.below BL8.out.size (fun k hk => by have h1 := HB0.out; have h2 := HB1.out; omega))); have k9 := BQ9.out.rd; have q9 := BQ9.out.wr; clear s9 f9))
    | (go_at_call 27; ((with_reducible refine (CN6.out _ S9.out).mono ?_); rintro e w10 ⟨rfl, s10, f10⟩; have S10 := Lib.hid s10; have BK10 := Lib.hid (BK9.out.fr f10 NE.out.2.1); have BQ10 := Lib.hid (BQ9.out.fr f10 NE.out.2.2.1); have BL10 := Lib.hid (BL9.out.trans (f10.below BL9.out.size (fun k hk => by have h1 := HB0.out; have h2 := HB1.out; omega))); have k10 := BQ10.out.rd; have q10 := BQ10.out.wr; clear s10 f10)))
  have BQ11 := Lib.hid (show Blk (((((w10.setCell ⟨b1, 5, none⟩ (.int .i64 va)).setCell ⟨b1, 6, none⟩ (.int .i64 vd)).setCell ⟨b1, 7, none⟩ (.int .i64 vb)).setCell ⟨b1, 8, none⟩ (.int .i64 vc)).setCell ⟨b1, 9, none⟩ (.int .i64 vw)) b1 36 (sdC op v 0 0 0 va vd vb vc vw nilV 0) from by rw [blk_row5 (i := 5) BQ10.out]; exact setObj_at (lt_of_block BQ10.out) _)
  have FR11 := Lib.hid (show Fr (fun k => k = b1) w10 (((((w10.setCell ⟨b1, 5, none⟩ (.int .i64 va)).setCell ⟨b1, 6, none⟩ (.int .i64 vd)).setCell ⟨b1, 7, none⟩ (.int .i64 vb)).setCell ⟨b1, 8, none⟩ (.int .i64 vc)).setCell ⟨b1, 9, none⟩ (.int .i64 vw)) from by rw [blk_row5 (i := 5) BQ10.out]; exact Fr.setObj (F := fun k => k = b1) (Fr.refl _ _) rfl _)
  obtain ⟨w11, hw11⟩ : ∃ w11, w11 = (((((w10.setCell ⟨b1, 5, none⟩ (.int .i64 va)).setCell ⟨b1, 6, none⟩ (.int .i64 vd)).setCell ⟨b1, 7, none⟩ (.int .i64 vb)).setCell ⟨b1, 8, none⟩ (.int .i64 vc)).setCell ⟨b1, 9, none⟩ (.int .i64 vw)) := ⟨_, rfl⟩
  rw [← hw11] at BQ11 FR11 ⊢
  have BK11 := Lib.hid (BK10.out.fr FR11.out NE.out.1)
  have BL11 := Lib.hid (BL10.out.trans (FR11.out.below BL10.out.size (fun k hk => by have h1 := HB0.out; have h2 := HB1.out; omega)))
  have k11 := BQ11.out.rd
  have kw := BK11.out.wr
  have kr := BK11.out.rd
  clear hw11 k5 k6 k7 k8 k9 k10 q6 q7 q8 q9 q10
  go_wp2
  rw [twelve_set BK11.out]
  refine bodyPost_ret (results_cellt rfl _ _ b0 _ _ (0, 0) _ rfl (setObj_at (lt_of_block BK11.out) _) Tryd.underlying36 rfl (by kernel_rfl)) rfl ?_
  exact ⟨rfl, BL11.out.trans ((Fr.setObj (F := fun k => k = b0) (Fr.refl _ _) rfl _).below BL11.out.size (fun k hk => by have := HB0.out; omega))⟩
set_option maxHeartbeats 8000000 in
set_option maxRecDepth 100000 in
theorem csaid_err_ok (A : Option Addr) (n c : Nat) (q : List Int) (op : Int) (w : World) (hr : RdI w .u8 A n c q) (h0 : q.getD 0 0 = 128 + op) (hop : 0 ≤ op) (h2 : 2 ≤ n) (ho : op = 127) (h2n : n = 2) (hv : q.getD 1 0 ≠ 0) :
    Calls Tryd.prog 19 #[.slice A n c] w fun e w' => e = .returned (.tuple #[.agg (sdC op 0 0 0 0 0 0 0 0 0 nilV (q.getD 1 0)), .bool true]) ∧ Below w.heap.size w w' := by
  have hcp := hr.cap
  have hmx := hr.max
  unfold maxLen at hmx
  obtain ⟨d, off, rfl, hlt, hc⟩ := hr.at_ (by omega)
  have hby : byt q := fun x hx => wf_u8 (hr.wf x hx)
  have HR := Lib.hid hr
  have HL := Lib.hid hr.len
  have HBY := Lib.hid hby
  have HDL := Lib.hid hlt
  have hb0 := byt_getD hby 0
  have c00 := hc 0 (by omega)
  obtain ⟨y, hy⟩ : ∃ y, y = 128 + op := ⟨_, rfl⟩
  rw [h0, ← hy] at hb0 c00
  rw [Nat.add_zero] at c00
  have e0 : y - 128 = op := by omega
  have e1 : IntKind.u8.wrap op = op := by rw [IntKind.wrap_u8]; omega
  have e2 : IntKind.i64.wrap op = op := by rw [IntKind.wrap_i64]; omega
  have t1 : ¬ (n : Int) < 2 := by omega
  have t2 : ¬ y < 128 := by omega
  have g0 : (0 : Int) < (n : Int) := by omega
  have g1 : (1 : Int) ≤ (n : Int) := by omega
  have g2 : (n : Int) ≤ (c : Int) := by omega
  have g3 : ¬ c = 1 := by omega
  have HY := Lib.hid hy
  have HOP := Lib.hid hop
  clear hr hc hby hy h0 hlt hop
  have t3 : (op == 1) = false := by rw [ho]; rfl
  have t4 : (op == 2) = false := by rw [ho]; rfl
  have t5 : (op == 3) = false := by rw [ho]; rfl
  have t6 : (op == 4) = false := by rw [ho]; rfl
  have t7 : (op == 127) = true := by rw [ho]; rfl
  subst h2n
  have HVV := Lib.hid hv
  clear ho h2 hv
  obtain ⟨v, hv⟩ : ∃ x, x = q.getD 1 0 := ⟨_, rfl⟩
  have hvb := byt_getD HBY.out 1
  rw [← hv] at hvb
  have Hv := Lib.hid hv
  have Pv := Lib.hid (show preZ (q.drop 1) 1 = v from by rw [pre1, hv]; simp [List.getD])
  have ev : IntKind.i64.wrap v = v := u64_i64 hvb
  clear hv
  rw [← Hv.out] at HVV
  rw [← Hv.out]
  have t8 : (v != 0) = true := by have := HVV.out; simpa using this
  go_enter Tryd.func19, Tryd.ntmps19
  go_upto_region 1 with (fail)
  obtain ⟨w1, hw1, hbk, hbl, hsz1⟩ := box_new w (sdC 0 0 0 0 0 0 0 0 0 0 nilV 0) 36
  change Code.wp _ _ _ _ (w.alloc (.cells (sdC 0 0 0 0 0 0 0 0 0 0 nilV 0) 36))
  rw [hw1]
  obtain ⟨b0, hb0⟩ : ∃ b0, b0 = w.heap.size := ⟨_, rfl⟩
  rw [← hb0] at hbk hsz1 ⊢
  have HB0 := Lib.hid hb0
  have BK := Lib.hid hbk
  have BL := Lib.hid hbl
  have S1 := Lib.hid hsz1
  have c01 : w1.cell? ⟨d, off, none⟩ = some (.int .u8 y) := by rw [← c00]; exact hbl.cell (p := ⟨d, off, none⟩) HDL.out
  clear hbk hbl hsz1 hw1 hb0 c00
  go_upto_region 4 with (fail)
  obtain ⟨w2, hw2, hbk, hbl, hsz2⟩ := box_new w1 (sdC op 0 0 0 0 0 0 0 0 0 nilV 0) 36
  change Code.wp _ _ _ _ (w1.alloc (.cells (sdC op 0 0 0 0 0 0 0 0 0 nilV 0) 36))
  rw [hw2]
  obtain ⟨b1, hb1⟩ : ∃ b1, b1 = w1.heap.size := ⟨_, rfl⟩
  rw [← hb1] at hbk hsz2 ⊢
  have HB1 := Lib.hid (show b1 = b0 + 1 from by rw [hb1, S1.out])
  have S2 := Lib.hid hsz2
  have BQ2 := Lib.hid hbk
  have BK2 := Lib.hid (BK.out.keep hbl)
  have BL2 := Lib.hid (BL.out.trans (hbl.mono BL.out.size))
  have R1 := Lib.hid (show RdI w2 .u8 (some ⟨d, off + 1, none⟩) 1 (c - 1) (q.drop 1) from (rdI_end HR.out (m := 1) (by omega)).below BL2.out)
  have HD2 := Lib.hid (show d < w2.heap.size from Nat.lt_of_lt_of_le HDL.out BL2.out.size)
  have HDN := Lib.hid (show d ≠ b1 + 1 ∧ d ≠ b1 ∧ d ≠ b0 from by have h1 := HB0.out; have h2 := HB1.out; have h3 := HDL.out; omega)
  have CR := Lib.hid (reader_any _ _ _ d _ _ R1.out (fun _ => ⟨_, rfl⟩) HD2.out (b1 + 1) S2.out)
  clear hbk hbl hsz2 hw2 hb1 c01
  go_upto_region 5 with (go_at_call 24; ((with_reducible refine CR.out.mono ?_); rintro e w3 ⟨rfl, s3, b3⟩; have S3 := Lib.hid s3; have B3 := Lib.hid b3; clear s3 b3))
  have BK3 := Lib.hid (BK2.out.keep B3.out)
  have BQ3 := Lib.hid (BQ2.out.keep B3.out)
  have BL3 := Lib.hid (BL2.out.trans (B3.out.mono BL2.out.size))
  have NE := Lib.hid (show b0 ≠ b1 ∧ b0 ≠ b1 + 1 ∧ b1 ≠ b1 + 1 ∧ b1 ≠ b0 from by have := HB1.out; omega)
  have k3 := BQ3.out.rd
  have CN1 := Lib.hid (fun (wx : World) (hx : SrcAt wx (b1 + 1) d (q.drop 1)) => next_x (b1 + 1) d (q.drop 1) (q.drop 2) v 1 1 rfl (by omega) (by rw [List.length_drop, HL.out]; omega) (by omega) wx hx HDN.out.1 Pv.out (by rw [List.drop_drop]))
  go_upto_region 19 with (first
    | (go_at_call 27; ((with_reducible refine (CN1.out _ S3.out).mono ?_); rintro e w4 ⟨rfl, s4, f4⟩; have S4 := Lib.hid s4; have BK4 := Lib.hid (BK3.out.fr f4 NE.out.2.1); have BQ4 := Lib.hid (BQ3.out.fr f4 NE.out.2.2.1); have BL4 := Lib.hid (BL3.out.trans (f4.below BL3.out.size (fun k hk => by have h1 := HB0.out; have h2 := HB1.out; omega))); have k4 := BQ4.out.rd; have q4 := BQ4.out.wr; clear s4 f4)))
  have BQ5 := Lib.hid (show Blk (w4.setCell ⟨b1, 11, none⟩ (.int .i64 v)) b1 36 (sdC op 0 0 0 0 0 0 0 0 0 nilV v) from by rw [setCell_obj BQ4.out]; exact setObj_at (lt_of_block BQ4.out) _)
  have FR5 := Lib.hid (fr_set (i := 11) (v := .int .i64 v) BQ4.out)
  obtain ⟨w5, hw5⟩ : ∃ w5, w5 = (w4.setCell ⟨b1, 11, none⟩ (.int .i64 v)) := ⟨_, rfl⟩
  rw [← hw5] at BQ5 FR5 ⊢
  have BK5 := Lib.hid (BK4.out.fr FR5.out NE.out.1)
  have BL5 := Lib.hid (BL4.out.trans (FR5.out.below BL4.out.size (fun k hk => by have h1 := HB0.out; have h2 := HB1.out; omega)))
  have kw := BK5.out.wr
  have kr := BK5.out.rd
  have y1 : ∀ i, w5.drew.cell? ⟨b1, i, none⟩ = (sdC op 0 0 0 0 0 0 0 0 0 nilV v)[i]? := BQ5.out.drew.rd
  clear hw5 k3 k4 q4
  refine wp_region_held_drew (S := fun w' => ∀ i, w'.cell? ⟨b1, i, none⟩ = (sdC op 0 0 0 0 0 0 0 0 0 nilV v)[i]?) (by kernel_rfl) y1 (fun hHeld => ?_)
  clear y1
  refine wpAnyH_take (i := 0) (oi := ?_) (v := ?_) ?_ ?_ ?_ ?_ ?_ ?_ ?_ ?_
  rotate_left 2
  · simp only [List.getElem?_toArray, List.getElem?_cons_succ, List.getElem?_cons_zero]; rfl
  · kernel_rfl
  · kernel_rfl
  · kernel_rfl
  · exact fun _ _ _ h => h
  · refine Or.inl ⟨by rfl, ?_⟩
    intro w' hSw
    (try dsimp only at hSw)
    go_simp
    all_goals (with_reducible rfl)
  · assumption
  try simp only [Act.put, List.setIfInBounds_toArray, List.set_cons_zero, List.set_cons_succ]
  refine wpAnyH_take (i := 1) (oi := ?_) (v := ?_) ?_ ?_ ?_ ?_ ?_ ?_ ?_ ?_
  rotate_left 2
  · simp only [List.getElem?_toArray, List.getElem?_cons_succ, List.getElem?_cons_zero]; rfl
  · kernel_rfl
  · kernel_rfl
  · kernel_rfl
  · exact fun _ _ _ h => h
  · refine Or.inl ⟨by rfl, ?_⟩
    intro w' hSw
    (try dsimp only at hSw)
    go_simp
    all_goals (with_reducible rfl)
  · assumption
  try simp only [Act.put, List.setIfInBounds_toArray, List.set_cons_zero, List.set_cons_succ]
  refine wpAnyH_take (i := 2) (oi := ?_) (v := ?_) ?_ ?_ ?_ ?_ ?_ ?_ ?_ ?_
  rotate_left 2
  · simp only [List.getElem?_toArray, List.getElem?_cons_succ, List.getElem?_cons_zero]; rfl
  · kernel_rfl
  · kernel_rfl
  · kernel_rfl
  · exact fun _ _ _ h => h
  · refine Or.inl ⟨by rfl, ?_⟩
    intro w' hSw
    (try dsimp only at hSw)
    go_simp
    all_goals (with_reducible rfl)
  · assumption
  try simp only [Act.put, List.setIfInBounds_toArray, List.set_cons_zero, List.set_cons_succ]
  refine wpAnyH_take (i := 3) (oi := ?_) (v := ?_) ?_ ?_ ?_ ?_ ?_ ?_ ?_ ?_
  rotate_left 2
  · simp only [List.getElem?_toArray, List.getElem?_cons_succ, List.getElem?_cons_zero]; rfl
  · kernel_rfl
  · kernel_rfl
  · kernel_rfl
  · exact fun _ _ _ h => h
  · refine Or.inl ⟨by rfl, ?_⟩
    intro w' hSw
    (try dsimp only at hSw)
    go_simp
    all_goals (with_reducible rfl)
  · assumption
  try simp only [Act.put, List.setIfInBounds_toArray, List.set_cons_zero, List.set_cons_succ]
  refine wpAnyH_ready (rs := [4]) (by kernel_rfl) (by simp) ?_
  refine AllReadyH.cons (o := ?_) ?_ ?_ ?_
  rotate_left 1
  · simp only [List.getElem?_toArray, List.getElem?_cons_succ, List.getElem?_cons_zero]; rfl
  rotate_left 1
  · exact AllReadyH.nil
  intro K hK
  go_simp
  skip
  refine hK.out _ _ (by rw [twelve_set BK5.out]; exact (Blk.drew (BQ5.out.fr (Fr.setObj (F := fun k => k = b0) (Fr.refl _ _) rfl _) NE.out.2.2.2)).rd) (fun hHeld => ?_)
  clear hK K
  try simp only [Act.put, List.setIfInBounds_toArray, List.set_cons_zero, List.set_cons_succ]
  refine wpAnyH_take (i := 5) (oi := ?_) (v := ?_) ?_ ?_ ?_ ?_ ?_ ?_ ?_ ?_
  rotate_left 2
  · simp only [List.getElem?_toArray, List.getElem?_cons_succ, List.getElem?_cons_zero]; rfl
  · kernel_rfl
  · kernel_rfl
  · kernel_rfl
  · exact fun _ _ _ h => h
  · refine Or.inl ⟨by rfl, ?_⟩
    intro w' hSw
    (try dsimp only at hSw)
    go_simp
    all_goals (with_reducible rfl)
  · assumption
  try simp only [Act.put, List.setIfInBounds_toArray, List.set_cons_zero, List.set_cons_succ]
  refine wpAnyH_done (by kernel_rfl) ?_ _
  clear kw kr hHeld
  go_wp2
  rw [twelve_set BK5.out]
  refine bodyPost_ret (results_cellt rfl _ _ b0 _ _ (0, 0) _ rfl (setObj_at (lt_of_block BK5.out) _) Tryd.underlying36 rfl (by kernel_rfl)) rfl ?_
  first | exact ⟨rfl, below_draws (BL5.out.trans ((Fr.setObj (F := fun k => k = b0) (Fr.refl _ _) rfl _).below BL5.out.size (fun k hk => by have := HB0.out; omega))) 1⟩ | exact ⟨_, rfl, isSd_mk _ _ _ _ _ _ _ _ _ _ _ _ _ _, below_draws (BL5.out.trans ((Fr.setObj (F := fun k => k = b0) (Fr.refl _ _) rfl _).below BL5.out.size (fun k hk => by have := HB0.out; omega))) 1⟩ | exact ⟨isSd_mk _ _ _ _ _ _ _ _ _ _ _ _ _ _, below_draws (BL5.out.trans ((Fr.setObj (F := fun k => k = b0) (Fr.refl _ _) rfl _).below BL5.out.size (fun k hk => by have := HB0.out; omega))) 1⟩
set_option maxHeartbeats 8000000 in
set_option maxRecDepth 100000 in
theorem csaid_err_no (A : Option Addr) (n c : Nat) (q : List Int) (op : Int) (w : World) (hr : RdI w .u8 A n c q) (h0 : q.getD 0 0 = 128 + op) (hop : 0 ≤ op) (h2 : 2 ≤ n) (ho : op = 127) (h2n : n = 2) (hv : q.getD 1 0 = 0) :
    Calls Tryd.prog 19 #[.slice A n c] w fun e w' => ∃ sv, e = .returned (.tuple #[sv, .bool false]) ∧ isSd sv ∧ Below w.heap.size w w' := by
  have hcp := hr.cap
  have hmx := hr.max
  unfold maxLen at hmx
  obtain ⟨d, off, rfl, hlt, hc⟩ := hr.at_ (by omega)
  have hby : byt q := fun x hx => wf_u8 (hr.wf x hx)
  have HR := Lib.hid hr
  have HL := Lib.hid hr.len
  have HBY := Lib.hid hby
  have HDL := Lib.hid hlt
  have hb0 := byt_getD hby 0
  have c00 := hc 0 (by omega)
  obtain ⟨y, hy⟩ : ∃ y, y = 128 + op := ⟨_, rfl⟩
  rw [h0, ← hy] at hb0 c00
  rw [Nat.add_zero] at c00
  have e0 : y - 128 = op := by omega
  have e1 : IntKind.u8.wrap op = op := by rw [IntKind.wrap_u8]; omega
  have e2 : IntKind.i64.wrap op = op := by rw [IntKind.wrap_i64]; omega
  have t1 : ¬ (n : Int) < 2 := by omega
  have t2 : ¬ y < 128 := by omega
  have g0 : (0 : Int) < (n : Int) := by omega
  have g1 : (1 : Int) ≤ (n : Int) := by omega
  have g2 : (n : Int) ≤ (c : Int) := by omega
  have g3 : ¬ c = 1 := by omega
  have HY := Lib.hid hy
  have HOP := Lib.hid hop
  clear hr hc hby hy h0 hlt hop
  have t3 : (op == 1) = false := by rw [ho]; rfl
  have t4 : (op == 2) = false := by rw [ho]; rfl
  have t5 : (op == 3) = false := by rw [ho]; rfl
  have t6 : (op == 4) = false := by rw [ho]; rfl
  have t7 : (op == 127) = true := by rw [ho]; rfl
  subst h2n
  have HVV := Lib.hid hv
  clear ho h2 hv
  obtain ⟨v, hv⟩ : ∃ x, x = q.getD 1 0 := ⟨_, rfl⟩
  have hvb := byt_getD HBY.out 1
  rw [← hv] at hvb
  have Hv := Lib.hid hv
  have Pv := Lib.hid (show preZ (q.drop 1) 1 = v from by rw [pre1, hv]; simp [List.getD])
  have ev : IntKind.i64.wrap v = v := u64_i64 hvb
  clear hv
  rw [← Hv.out] at HVV
  have t8 : (v != 0) = false := by have := HVV.out; simpa using this
  go_enter Tryd.func19, Tryd.ntmps19
  go_upto_region 1 with (fail)
  obtain ⟨w1, hw1, hbk, hbl, hsz1⟩ := box_new w (sdC 0 0 0 0 0 0 0 0 0 0 nilV 0) 36
  change Code.wp _ _ _ _ (w.alloc (.cells (sdC 0 0 0 0 0 0 0 0 0 0 nilV 0) 36))
  rw [hw1]
  obtain ⟨b0, hb0⟩ : ∃ b0, b0 = w.heap.size := ⟨_, rfl⟩
  rw [← hb0] at hbk hsz1 ⊢
  have HB0 := Lib.hid hb0
  have BK := Lib.hid hbk
  have BL := Lib.hid hbl
  have S1 := Lib.hid hsz1
  have c01 : w1.cell? ⟨d, off, none⟩ = some (.int .u8 y) := by rw [← c00]; exact hbl.cell (p := ⟨d, off, none⟩) HDL.out
  clear hbk hbl hsz1 hw1 hb0 c00
  go_upto_region 4 with (fail)
  obtain ⟨w2, hw2, hbk, hbl, hsz2⟩ := box_new w1 (sdC op 0 0 0 0 0 0 0 0 0 nilV 0) 36
  change Code.wp _ _ _ _ (w1.alloc (.cells (sdC op 0 0 0 0 0 0 0 0 0 nilV 0) 36))
  rw [hw2]
  obtain ⟨b1, hb1⟩ : ∃ b1, b1 = w1.heap.size := ⟨_, rfl⟩
  rw [← hb1] at hbk hsz2 ⊢
  have HB1 := Lib.hid (show b1 = b0 + 1 from by rw [hb1, S1.out])
  have S2 := Lib.hid hsz2
  have BQ2 := Lib.hid hbk
  have BK2 := Lib.hid (BK.out.keep hbl)
  have BL2 := Lib.hid (BL.out.trans (hbl.mono BL.out.size))
  have R1 := Lib.hid (show RdI w2 .u8 (some ⟨d, off + 1, none⟩) 1 (c - 1) (q.drop 1) from (rdI_end HR.out (m := 1) (by omega)).below BL2.out)
  have HD2 := Lib.hid (show d < w2.heap.size from Nat.lt_of_lt_of_le HDL.out BL2.out.size)
  have HDN := Lib.hid (show d ≠ b1 + 1 ∧ d ≠ b1 ∧ d ≠ b0 from by have h1 := HB0.out; have h2 := HB1.out; have h3 := HDL.out; omega)
  have CR := Lib.hid (reader_any _ _ _ d _ _ R1.out (fun _ => ⟨_, rfl⟩) HD2.out (b1 + 1) S2.out)
  clear hbk hbl hsz2 hw2 hb1 c01
  go_upto_region 5 with (go_at_call 24; ((with_reducible refine CR.out.mono ?_); rintro e w3 ⟨rfl, s3, b3⟩; have S3 := Lib.hid s3; have B3 := Lib.hid b3; clear s3 b3))
  have BK3 := Lib.hid (BK2.out.keep B3.out)
  have BQ3 := Lib.hid (BQ2.out.keep B3.out)
  have BL3 := Lib.hid (BL2.out.trans (B3.out.mono BL2.out.size))
  have NE := Lib.hid (show b0 ≠ b1 ∧ b0 ≠ b1 + 1 ∧ b1 ≠ b1 + 1 ∧ b1 ≠ b0 from by have := HB1.out; omega)
  have k3 := BQ3.out.rd
  have CN1 := Lib.hid (fun (wx : World) (hx : SrcAt wx (b1 + 1) d (q.drop 1)) => next_x (b1 + 1) d (q.drop 1) (q.drop 2) v 1 1 rfl (by omega) (by rw [List.length_drop, HL.out]; omega) (by omega) wx hx HDN.out.1 Pv.out (by rw [List.drop_drop]))
  go_upto_region 19 with (first
    | (go_at_call 27; ((with_reducible refine (CN1.out _ S3.out).mono ?_); rintro e w4 ⟨rfl, s4, f4⟩; have S4 := Lib.hid s4; have BK4 := Lib.hid (BK3.out.fr f4 NE.out.2.1); have BQ4 := Lib.hid (BQ3.out.fr f4 NE.out.2.2.1); have BL4 := Lib.hid (BL3.out.trans (f4.below BL3.out.size (fun k hk => by have h1 := HB0.out; have h2 := HB1.out; omega))); have k4 := BQ4.out.rd; have q4 := BQ4.out.wr; clear s4 f4)))
  have BQ5 := Lib.hid (show Blk (w4.setCell ⟨b1, 11, none⟩ (.int .i64 v)) b1 36 (sdC op 0 0 0 0 0 0 0 0 0 nilV v) from by rw [setCell_obj BQ4.out]; exact setObj_at (lt_of_block BQ4.out) _)
  have FR5 := Lib.hid (fr_set (i := 11) (v := .int .i64 v) BQ4.out)
  obtain ⟨w5, hw5⟩ : ∃ w5, w5 = (w4.setCell ⟨b1, 11, none⟩ (.int .i64 v)) := ⟨_, rfl⟩
  rw [← hw5] at BQ5 FR5 ⊢
  have BK5 := Lib.hid (BK4.out.fr FR5.out NE.out.1)
  have BL5 := Lib.hid (BL4.out.trans (FR5.out.below BL4.out.size (fun k hk => by have h1 := HB0.out; have h2 := HB1.out; omega)))
  have kw := BK5.out.wr
  have kr := BK5.out.rd
  have y1 : ∀ i, w5.drew.cell? ⟨b1, i, none⟩ = (sdC op 0 0 0 0 0 0 0 0 0 nilV v)[i]? := BQ5.out.drew.rd
  clear hw5 k3 k4 q4
  refine wp_region_held_drew (S := fun w' => ∀ i, w'.cell? ⟨b1, i, none⟩ = (sdC op 0 0 0 0 0 0 0 0 0 nilV v)[i]?) (by kernel_rfl) y1 (fun hHeld => ?_)
  clear y1
  refine wpAnyH_take (i := 0) (oi := ?_) (v := ?_) ?_ ?_ ?_ ?_ ?_ ?_ ?_ ?_
  rotate_left 2
  · simp only [List.getElem?_toArray, List.getElem?_cons_succ, List.getElem?_cons_zero]; rfl
  · kernel_rfl
  · kernel_rfl
  · kernel_rfl
  · exact fun _ _ _ h => h
  · refine Or.inl ⟨by rfl, ?_⟩
    intro w' hSw
    (try dsimp only at hSw)
    go_simp
    all_goals (with_reducible rfl)
  · assumption
  try simp only [Act.put, List.setIfInBounds_toArray, List.set_cons_zero, List.set_cons_succ]
  refine wpAnyH_take (i := 1) (oi := ?_) (v := ?_) ?_ ?_ ?_ ?_ ?_ ?_ ?_ ?_
  rotate_left 2
  · simp only [List.getElem?_toArray, List.getElem?_cons_succ, List.getElem?_cons_zero]; rfl
  · kernel_rfl
  · kernel_rfl
  · kernel_rfl
  · exact fun _ _ _ h => h
  · refine Or.inl ⟨by rfl, ?_⟩
    intro w' hSw
    (try dsimp only at hSw)
    go_simp
    all_goals (with_reducible rfl)
  · assumption
  try simp only [Act.put, List.setIfInBounds_toArray, List.set_cons_zero, List.set_cons_succ]
  refine wpAnyH_take (i := 2) (oi := ?_) (v := ?_) ?_ ?_ ?_ ?_ ?_ ?_ ?_ ?_
  rotate_left 2
  · simp only [List.getElem?_toArray, List.getElem?_cons_succ, List.getElem?_cons_zero]; rfl
  · kernel_rfl
  · kernel_rfl
  · kernel_rfl
  · exact fun _ _ _ h => h
  · refine Or.inl ⟨by rfl, ?_⟩
    intro w' hSw
    (try dsimp only at hSw)
    go_simp
    all_goals (with_reducible rfl)
  · assumption
  try simp only [Act.put, List.setIfInBounds_toArray, List.set_cons_zero, List.set_cons_succ]
  refine wpAnyH_take (i := 3) (oi := ?_) (v := ?_) ?_ ?_ ?_ ?_ ?_ ?_ ?_ ?_
  rotate_left 2
  · simp only [List.getElem?_toArray, List.getElem?_cons_succ, List.getElem?_cons_zero]; rfl
  · kernel_rfl
  · kernel_rfl
  · kernel_rfl
  · exact fun _ _ _ h => h
  · refine Or.inl ⟨by rfl, ?_⟩
    intro w' hSw
    (try dsimp only at hSw)
    go_simp
    all_goals (with_reducible rfl)
  · assumption
  try simp only [Act.put, List.setIfInBounds_toArray, List.set_cons_zero, List.set_cons_succ]
  refine wpAnyH_ready (rs := [4]) (by kernel_rfl) (by simp) ?_
  refine AllReadyH.cons (o := ?_) ?_ ?_ ?_
  rotate_left 1
  · simp only [List.getElem?_toArray, List.getElem?_cons_succ, List.getElem?_cons_zero]; rfl
  rotate_left 1
  · exact AllReadyH.nil
  intro K hK
  go_simp
  skip
  refine hK.out _ _ (by rw [twelve_set BK5.out]; exact (Blk.drew (BQ5.out.fr (Fr.setObj (F := fun k => k = b0) (Fr.refl _ _) rfl _) NE.out.2.2.2)).rd) (fun hHeld => ?_)
  clear hK K
  try simp only [Act.put, List.setIfInBounds_toArray, List.set_cons_zero, List.set_cons_succ]
  refine wpAnyH_take (i := 5) (oi := ?_) (v := ?_) ?_ ?_ ?_ ?_ ?_ ?_ ?_ ?_
  rotate_left 2
  · simp only [List.getElem?_toArray, List.getElem?_cons_succ, List.getElem?_cons_zero]; rfl
  · kernel_rfl
  · kernel_rfl
  · kernel_rfl
  · exact fun _ _ _ h => h
  · refine Or.inl ⟨by rfl, ?_⟩
    intro w' hSw
    (try dsimp only at hSw)
    go_simp
    all_goals (with_reducible rfl)
  · assumption
  try simp only [Act.put, List.setIfInBounds_toArray, List.set_cons_zero, List.set_cons_succ]
  refine wpAnyH_done (by kernel_rfl) ?_ _
  clear kw kr hHeld
  go_wp2
  rw [twelve_set BK5.out]
  refine bodyPost_ret (results_cellt rfl _ _ b0 _ _ (0, 0) _ rfl (setObj_at (lt_of_block BK5.out) _) Tryd.underlying36 rfl (by kernel_rfl)) rfl ?_
  first | exact ⟨rfl, below_draws (BL5.out.trans ((Fr.setObj (F := fun k => k = b0) (Fr.refl _ _) rfl _).below BL5.out.size (fun k hk => by have := HB0.out; omega))) 1⟩ | exact ⟨_, rfl, isSd_mk _ _ _ _ _ _ _ _ _ _ _ _ _ _, below_draws (BL5.out.trans ((Fr.setObj (F := fun k => k = b0) (Fr.refl _ _) rfl _).below BL5.out.size (fun k hk => by have := HB0.out; omega))) 1⟩ | exact ⟨isSd_mk _ _ _ _ _ _ _ _ _ _ _ _ _ _, below_draws (BL5.out.trans ((Fr.setObj (F := fun k => k = b0) (Fr.refl _ _) rfl _).below BL5.out.size (fun k hk => by have := HB0.out; omega))) 1⟩
end Go.Proofs.YtghhoofdbmgacaaDoor
