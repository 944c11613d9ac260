/- The contracts of layer 13 (frame): what an answer says, more ways. -/
import Derived.Test.YtghhoofdbmgacaaDoorFaS
namespace Go.Proofs.YtghhoofdbmgacaaDoor
set_option linter.unusedSimpArgs false
set_option linter.unusedVariables false
open Go.ChangeShapes Go.WideShapes Go.ChangeAt Go.RowKit Go.Deep
set_option maxHeartbeats 8000000 in
set_option maxRecDepth 100000 in
theorem csaid_top (A : Option Addr) (n c : Nat) (q : List Int) (op : Int) (w : World) (hr : RdI w .u8 A n c q) (h0 : q.getD 0 0 = 128 + op) (hop : 0 ≤ op) (h2 : 2 ≤ n) (ho : op = 4) (h3n : 3 ≤ n) (hn : n ≤ 100000) (r : Option (List Cnt)) (rb : Bool) (hrb : rb = r.isSome) (hlz : lstZ (q.getD 2 0).toNat (q.drop 3) = r) :
    Calls Tryd.prog 19 #[.slice A n c] w fun e w' => ∃ LA LN LC, e = .returned (.tuple #[.agg (sdC op (q.getD 1 0) 0 0 0 0 0 0 0 0 (.slice LA LN LC) 0), .bool rb]) ∧ (∀ l, r = some l → ∃ ls : List CV, zs ls = l ∧ w'.ownsRow w.heap.size 29 3 (.slice LA LN LC) ls.length (cells3 ls)) ∧ Below w.heap.size w w' := by
  have hcp := hr.cap
  have hmx := hr.max
  unfold maxLen at hmx
  obtain ⟨d, off, rfl, hlt, hc⟩ := hr.at_ (by omega)
  have hby : byt q := fun x hx => wf_u8 (hr.wf x hx)
  have HR := Lib.hid hr
  have HL := Lib.hid hr.len
  have HBY := Lib.hid hby
  have HDL := Lib.hid hlt
  have hb0 := byt_getD hby 0
  have c00 := hc 0 (by omega)
  obtain ⟨y, hy⟩ : ∃ y, y = 128 + op := ⟨_, rfl⟩
  rw [h0, ← hy] at hb0 c00
  rw [Nat.add_zero] at c00
  have e0 : y - 128 = op := by omega
  have e1 : IntKind.u8.wrap op = op := by rw [IntKind.wrap_u8]; omega
  have e2 : IntKind.i64.wrap op = op := by rw [IntKind.wrap_i64]; omega
  have t1 : ¬ (n : Int) < 2 := by omega
  have t2 : ¬ y < 128 := by omega
  have g0 : (0 : Int) < (n : Int) := by omega
  have g1 : (1 : Int) ≤ (n : Int) := by omega
  have g2 : (n : Int) ≤ (c : Int) := by omega
  have g3 : ¬ c = 1 := by omega
  have HY := Lib.hid hy
  have HOP := Lib.hid hop
  clear hr hc hby hy h0 hlt hop
  have t3 : (op == 1) = false := by rw [ho]; rfl
  have t4 : (op == 2) = false := by rw [ho]; rfl
  have t5 : (op == 3) = false := by rw [ho]; rfl
  have t6 : (op == 4) = true := by rw [ho]; rfl
  have t7 : (3 : Int) ≤ (n : Int) := by omega
  have HRB := Lib.hid hrb
  have HLZ := Lib.hid hlz
  have HN := Lib.hid hn
  clear ho hrb hlz hn
  obtain ⟨v, hv⟩ : ∃ x, x = q.getD 1 0 := ⟨_, rfl⟩
  have hvb := byt_getD HBY.out 1
  rw [← hv] at hvb
  have Hv := Lib.hid hv
  have Pv := Lib.hid (show preZ (q.drop 1) 1 = v from by rw [pre1, hv]; simp [List.getD])
  have ev : IntKind.i64.wrap v = v := u64_i64 hvb
  clear hv
  have hm0 := byt_getD HBY.out 2
  obtain ⟨m, hm⟩ : ∃ m : Nat, q.getD 2 0 = (m : Int) := ⟨(q.getD 2 0).toNat, by omega⟩
  have HM := Lib.hid hm
  have Pm := Lib.hid (show preZ (q.drop 2) 1 = (m : Int) from by rw [pre1, ← hm]; simp [List.getD])
  have hmb : m ≤ 255 := by omega
  have em : IntKind.i64.wrap (m : Int) = (m : Int) := by rw [IntKind.wrap_i64]; omega
  have HLM := Lib.hid (show lstZ m (q.drop 3) = r from by have h := HLZ.out; rw [hm, Int.toNat_natCast] at h; exact h)
  rw [← Hv.out]
  clear hm hm0
  go_enter Tryd.func19, Tryd.ntmps19
  go_upto_region 1 with (fail)
  obtain ⟨w1, hw1, hbk, hbl, hsz1⟩ := box_new w (sdC 0 0 0 0 0 0 0 0 0 0 nilV 0) 36
  change Code.wp _ _ _ _ (w.alloc (.cells (sdC 0 0 0 0 0 0 0 0 0 0 nilV 0) 36))
  rw [hw1]
  obtain ⟨b0, hb0⟩ : ∃ b0, b0 = w.heap.size := ⟨_, rfl⟩
  rw [← hb0] at hbk hsz1 ⊢
  have HB0 := Lib.hid hb0
  have BK := Lib.hid hbk
  have BL := Lib.hid hbl
  have S1 := Lib.hid hsz1
  have c01 : w1.cell? ⟨d, off, none⟩ = some (.int .u8 y) := by rw [← c00]; exact hbl.cell (p := ⟨d, off, none⟩) HDL.out
  clear hbk hbl hsz1 hw1 hb0 c00
  go_upto_region 4 with (fail)
  obtain ⟨w2, hw2, hbk, hbl, hsz2⟩ := box_new w1 (sdC op 0 0 0 0 0 0 0 0 0 nilV 0) 36
  change Code.wp _ _ _ _ (w1.alloc (.cells (sdC op 0 0 0 0 0 0 0 0 0 nilV 0) 36))
  rw [hw2]
  obtain ⟨b1, hb1⟩ : ∃ b1, b1 = w1.heap.size := ⟨_, rfl⟩
  rw [← hb1] at hbk hsz2 ⊢
  have HB1 := Lib.hid (show b1 = b0 + 1 from by rw [hb1, S1.out])
  have S2 := Lib.hid hsz2
  have BQ2 := Lib.hid hbk
  have BK2 := Lib.hid (BK.out.keep hbl)
  have BL2 := Lib.hid (BL.out.trans (hbl.mono BL.out.size))
  have R1 := Lib.hid (show RdI w2 .u8 (some ⟨d, off + 1, none⟩) (n - 1) (c - 1) (q.drop 1) from (rdI_end HR.out (m := 1) (by omega)).below BL2.out)
  have HD2 := Lib.hid (show d < w2.heap.size from Nat.lt_of_lt_of_le HDL.out BL2.out.size)
  have HDN := Lib.hid (show d ≠ b1 + 1 ∧ d ≠ b1 ∧ d ≠ b0 from by have h1 := HB0.out; have h2 := HB1.out; have h3 := HDL.out; omega)
  have CR := Lib.hid (reader_any _ _ _ d _ _ R1.out (fun _ => ⟨_, rfl⟩) HD2.out (b1 + 1) S2.out)
  clear hbk hbl hsz2 hw2 hb1 c01
  go_upto_region 5 with (go_at_call 24; ((with_reducible refine CR.out.mono ?_); rintro e w3 ⟨rfl, s3, b3⟩; have S3 := Lib.hid s3; have B3 := Lib.hid b3; clear s3 b3))
  have BK3 := Lib.hid (BK2.out.keep B3.out)
  have BQ3 := Lib.hid (BQ2.out.keep B3.out)
  have BL3 := Lib.hid (BL2.out.trans (B3.out.mono BL2.out.size))
  have NE := Lib.hid (show b0 ≠ b1 ∧ b0 ≠ b1 + 1 ∧ b1 ≠ b1 + 1 ∧ b1 ≠ b0 from by have := HB1.out; omega)
  have k3 := BQ3.out.rd
  have CN1 := Lib.hid (fun (wx : World) (hx : SrcAt wx (b1 + 1) d (q.drop 1)) => next_x (b1 + 1) d (q.drop 1) (q.drop 2) v 1 1 rfl (by omega) (by rw [List.length_drop, HL.out]; omega) (by omega) wx hx HDN.out.1 Pv.out (by rw [List.drop_drop]))
  have CN2 := Lib.hid (fun (wx : World) (hx : SrcAt wx (b1 + 1) d (q.drop 2)) => next_x (b1 + 1) d (q.drop 2) (q.drop 3) (m : Int) 1 1 rfl (by omega) (by rw [List.length_drop, HL.out]; omega) (by omega) wx hx HDN.out.1 Pm.out (by rw [List.drop_drop]))
  go_upto_region 14 with (first
    | (go_at_call 27; ((with_reducible refine (CN1.out _ S3.out).mono ?_); rintro e w4 ⟨rfl, s4, f4⟩; have S4 := Lib.hid s4; have BK4 := Lib.hid (BK3.out.fr f4 NE.out.2.1); have BQ4 := Lib.hid (BQ3.out.fr f4 NE.out.2.2.1); have BL4 := Lib.hid (BL3.out.trans (f4.below BL3.out.size (fun k hk => by have h1 := HB0.out; have h2 := HB1.out; omega))); have k4 := BQ4.out.rd; have q4 := BQ4.out.wr; clear s4 f4)))
  have BQ5 := Lib.hid (show Blk (w4.setCell ⟨b1, 1, none⟩ (.int .i64 v)) b1 36 (sdC op v 0 0 0 0 0 0 0 0 nilV 0) from by rw [setCell_obj BQ4.out]; exact setObj_at (lt_of_block BQ4.out) _)
  have FR5 := Lib.hid (fr_set (i := 1) (v := .int .i64 v) BQ4.out)
  obtain ⟨w5, hw5⟩ : ∃ w5, w5 = (w4.setCell ⟨b1, 1, none⟩ (.int .i64 v)) := ⟨_, rfl⟩
  rw [← hw5] at BQ5 FR5 ⊢
  have BK5 := Lib.hid (BK4.out.fr FR5.out NE.out.1)
  have S5 := Lib.hid (show SrcAt w5.drew (b1 + 1) d (q.drop 2) from (S4.out.fr FR5.out (fun e => NE.out.2.2.1 e.symm) HDN.out.2.1).keep (below_draws (Below.refl _ _) 1))
  have BL5 := Lib.hid (BL4.out.trans (FR5.out.below BL4.out.size (fun k hk => by have h1 := HB0.out; have h2 := HB1.out; omega)))
  clear hw5 k3 k4 q4
  have BL5d := Lib.hid (show Below w.heap.size w w5.drew from below_draws BL5.out 1)
  have hcase : (n = 3 ∧ c = 3) ∨ ¬ c = 3 := by omega
  have CL := Lib.hid (fun (A' : Option Addr) (n' c' : Nat) (wx : World) (h : RdI wx .u8 A' n' c' (q.drop 3)) (hn' : n' ≤ n) => rdlist_any A' n' c' (q.drop 3) m r hmb (by have := HN.out; omega) wx h HLM.out)
  rw [← HRB.out] at CL
  rcases hcase with ⟨rfl, rfl⟩ | hc3
  · have RT := Lib.hid (show q.drop 3 = [] from List.drop_eq_nil_of_le (by rw [HL.out]; exact Nat.le_refl _))
    refine wp_region_held_drew (S := fun _ => True) (by kernel_rfl) trivial (fun hHeld => ?_)
    refine wpAnyH_take (i := 0) (oi := ?_) (v := ?_) ?_ ?_ ?_ ?_ ?_ ?_ ?_ ?_
    rotate_left 2
    · simp only [List.getElem?_toArray, List.getElem?_cons_succ, List.getElem?_cons_zero]; rfl
    · kernel_rfl
    · kernel_rfl
    · kernel_rfl
    · exact fun _ _ _ h => h
    · refine Or.inl ⟨by rfl, ?_⟩
      intro w' hSw
      (try dsimp only at hSw)
      go_simp
      all_goals (with_reducible rfl)
    · assumption
    try simp only [Act.put, List.setIfInBounds_toArray, List.set_cons_zero, List.set_cons_succ]
    refine wpAnyH_take (i := 1) (oi := ?_) (v := ?_) ?_ ?_ ?_ ?_ ?_ ?_ ?_ ?_
    rotate_left 2
    · simp only [List.getElem?_toArray, List.getElem?_cons_succ, List.getElem?_cons_zero]; rfl
    · kernel_rfl
    · kernel_rfl
    · kernel_rfl
    · exact fun _ _ _ h => h
    · refine Or.inl ⟨by rfl, ?_⟩
      intro w' hSw
      (try dsimp only at hSw)
      go_simp
      all_goals (with_reducible rfl)
    · assumption
    try simp only [Act.put, List.setIfInBounds_toArray, List.set_cons_zero, List.set_cons_succ]
    refine wpAnyH_take (i := 2) (oi := ?_) (v := ?_) ?_ ?_ ?_ ?_ ?_ ?_ ?_ ?_
    rotate_left 2
    · simp only [List.getElem?_toArray, List.getElem?_cons_succ, List.getElem?_cons_zero]; rfl
    · kernel_rfl
    · kernel_rfl
    · kernel_rfl
    · exact fun _ _ _ h => h
    · refine Or.inl ⟨by rfl, ?_⟩
      intro w' hSw
      (try dsimp only at hSw)
      go_simp
      all_goals (with_reducible rfl)
    · assumption
    try simp only [Act.put, List.setIfInBounds_toArray, List.set_cons_zero, List.set_cons_succ]
    refine wpAnyH_ready (rs := [3]) (by kernel_rfl) (by simp) ?_
    refine AllReadyH.cons (o := ?_) ?_ ?_ ?_
    rotate_left 1
    · simp only [List.getElem?_toArray, List.getElem?_cons_succ, List.getElem?_cons_zero]; rfl
    rotate_left 1
    · exact AllReadyH.nil
    intro K hK
    go_simp
    ((with_reducible refine (CN2.out _ S5.out).mono ?_); rintro e w6 ⟨rfl, s6, f6⟩; have BK6 := Lib.hid ((show Blk w5.drew b0 36 (sdC 0 0 0 0 0 0 0 0 0 0 nilV 0) from BK5.out.drew).fr f6 NE.out.2.1); have BQ6 := Lib.hid ((show Blk w5.drew b1 36 (sdC op v 0 0 0 0 0 0 0 0 nilV 0) from BQ5.out.drew).fr f6 NE.out.2.2.1); have BL6 := Lib.hid (BL5d.out.trans (f6.below BL5d.out.size (fun k hk => by have h1 := HB0.out; have h2 := HB1.out; omega))); clear s6 f6)
    refine hK.out _ _ trivial (fun hHeld => ?_)
    clear hK K
    try simp only [Act.put, List.setIfInBounds_toArray, List.set_cons_zero, List.set_cons_succ]
    refine wpAnyH_take (i := 4) (oi := ?_) (v := ?_) ?_ ?_ ?_ ?_ ?_ ?_ ?_ ?_
    rotate_left 2
    · simp only [List.getElem?_toArray, List.getElem?_cons_succ, List.getElem?_cons_zero]; rfl
    · kernel_rfl
    · kernel_rfl
    · kernel_rfl
    · exact fun _ _ _ h => h
    · refine Or.inl ⟨by rfl, ?_⟩
      intro w' hSw
      (try dsimp only at hSw)
      go_simp
      all_goals (with_reducible rfl)
    · assumption
    try simp only [Act.put, List.setIfInBounds_toArray, List.set_cons_zero, List.set_cons_succ]
    refine wpAnyH_ready (rs := [5]) (by kernel_rfl) (by simp) ?_
    refine AllReadyH.cons (o := ?_) ?_ ?_ ?_
    rotate_left 1
    · simp only [List.getElem?_toArray, List.getElem?_cons_succ, List.getElem?_cons_zero]; rfl
    rotate_left 1
    · exact AllReadyH.nil
    intro K hK
    go_simp
    ((with_reducible refine (CL.out _ _ _ _ (by rw [RT.out]; exact rdI_none (by unfold maxLen; omega)) (by omega)).mono ?_); rintro e w7 ⟨lv, rfl, ⟨LA, LN, LC, rfl⟩, hls, b7⟩; have HLS := Lib.hid hls; have BK7 := Lib.hid (BK6.out.keep b7); have BQ7 := Lib.hid (BQ6.out.keep b7); have BL7 := Lib.hid (BL6.out.trans (b7.mono BL6.out.size)); have B7 := Lib.hid b7; clear hls b7)
    refine hK.out _ _ trivial (fun hHeld => ?_)
    clear hK K
    try simp only [Act.put, List.setIfInBounds_toArray, List.set_cons_zero, List.set_cons_succ]
    refine wpAnyH_take (i := 6) (oi := ?_) (v := ?_) ?_ ?_ ?_ ?_ ?_ ?_ ?_ ?_
    rotate_left 2
    · simp only [List.getElem?_toArray, List.getElem?_cons_succ, List.getElem?_cons_zero]; rfl
    · kernel_rfl
    · kernel_rfl
    · kernel_rfl
    · exact fun _ _ _ h => h
    · refine Or.inl ⟨by rfl, ?_⟩
      intro w' hSw
      (try dsimp only at hSw)
      go_simp
      all_goals (with_reducible rfl)
    · assumption
    try simp only [Act.put, List.setIfInBounds_toArray, List.set_cons_zero, List.set_cons_succ]
    refine wpAnyH_take (i := 7) (oi := ?_) (v := ?_) ?_ ?_ ?_ ?_ ?_ ?_ ?_ ?_
    rotate_left 2
    · simp only [List.getElem?_toArray, List.getElem?_cons_succ, List.getElem?_cons_zero]; rfl
    · kernel_rfl
    · kernel_rfl
    · kernel_rfl
    · exact fun _ _ _ h => h
    · refine Or.inl ⟨by rfl, ?_⟩
      intro w' hSw
      (try dsimp only at hSw)
      go_simp
      all_goals (with_reducible rfl)
    · assumption
    try simp only [Act.put, List.setIfInBounds_toArray, List.set_cons_zero, List.set_cons_succ]
    refine wpAnyH_take (i := 8) (oi := ?_) (v := ?_) ?_ ?_ ?_ ?_ ?_ ?_ ?_ ?_
    rotate_left 2
    · simp only [List.getElem?_toArray, List.getElem?_cons_succ, List.getElem?_cons_zero]; rfl
    · kernel_rfl
    · kernel_rfl
    · kernel_rfl
    · exact fun _ _ _ h => h
    · refine Or.inl ⟨by rfl, ?_⟩
      intro w' hSw
      (try dsimp only at hSw)
      go_simp
      all_goals (with_reducible rfl)
    · assumption
    try simp only [Act.put, List.setIfInBounds_toArray, List.set_cons_zero, List.set_cons_succ]
    refine wpAnyH_take (i := 9) (oi := ?_) (v := ?_) ?_ ?_ ?_ ?_ ?_ ?_ ?_ ?_
    rotate_left 2
    · simp only [List.getElem?_toArray, List.getElem?_cons_succ, List.getElem?_cons_zero]; rfl
    · kernel_rfl
    · kernel_rfl
    · kernel_rfl
    · exact fun _ _ _ h => h
    · refine Or.inl ⟨by rfl, ?_⟩
      intro w' hSw
      (try dsimp only at hSw)
      go_simp
      all_goals (with_reducible rfl)
    · assumption
    try simp only [Act.put, List.setIfInBounds_toArray, List.set_cons_zero, List.set_cons_succ]
    refine wpAnyH_take (i := 10) (oi := ?_) (v := ?_) ?_ ?_ ?_ ?_ ?_ ?_ ?_ ?_
    rotate_left 2
    · simp only [List.getElem?_toArray, List.getElem?_cons_succ, List.getElem?_cons_zero]; rfl
    · kernel_rfl
    · kernel_rfl
    · kernel_rfl
    · exact fun _ _ _ h => h
    · refine Or.inl ⟨by rfl, ?_⟩
      intro w' hSw
      (try dsimp only at hSw)
      go_simp
      all_goals (with_reducible rfl)
    · assumption
    try simp only [Act.put, List.setIfInBounds_toArray, List.set_cons_zero, List.set_cons_succ]
    refine wpAnyH_done (by kernel_rfl) ?_ _
    clear hHeld
    have k7 := BQ7.out.rd
    have q7 := BQ7.out.wr
    go_upto_region 16 with (fail)
    have BQ8 := Lib.hid (show Blk (w7.setCell ⟨b1, 10, none⟩ (.slice LA LN LC)) b1 36 (sdC op v 0 0 0 0 0 0 0 0 (.slice LA LN LC) 0) from by rw [setCell_obj BQ7.out]; exact setObj_at (lt_of_block BQ7.out) _)
    have FR8 := Lib.hid (fr_set (i := 10) (v := .slice LA LN LC) BQ7.out)
    obtain ⟨w8, hw8⟩ : ∃ w8, w8 = (w7.setCell ⟨b1, 10, none⟩ (.slice LA LN LC)) := ⟨_, rfl⟩
    rw [← hw8] at BQ8 FR8 ⊢
    have BK8 := Lib.hid (BK7.out.fr FR8.out NE.out.1)
    have BL8 := Lib.hid (BL7.out.trans (FR8.out.below BL7.out.size (fun k hk => by have h1 := HB0.out; have h2 := HB1.out; omega)))
    have HLS8 := Lib.hid (fun (l : List Cnt) (hl : r = some l) => show ∃ ls : List CV, zs ls = l ∧ (setObj w8 b0 (.cells (sdC op v 0 0 0 0 0 0 0 0 (.slice LA LN LC) 0) 36 (0, 0))).ownsRow w.heap.size 29 3 (.slice LA LN LC) ls.length (cells3 ls) from by
      obtain ⟨ls, h1, h2⟩ := HLS.out l hl
      have h6 := BL6.out.size
      have g1 := lt_of_block BQ6.out
      have h3 := owns_fr h2 FR8.out (fun g hg => by have h4 := (owns_lt h2 g hg).1; have g2 := HB1.out; omega)
      have h5 := owns_fr h3 (Fr.setObj (F := fun k => k = b0) (Fr.refl _ _) rfl (.cells (sdC op v 0 0 0 0 0 0 0 0 (.slice LA LN LC) 0) 36 (0, 0))) (fun g hg => by have h4 := (owns_lt h2 g hg).1; have g2 := HB1.out; omega)
      refine ⟨ls, h1, h5.1, ?_⟩
      rcases h5.2 with h0 | ⟨g, cap, cur, hv, hb, hr⟩
      · exact .inl h0
      · exact .inr ⟨g, cap, cur, hv, by omega, hr⟩)
    clear hw8 k7 q7
    have k8 := BQ8.out.rd
    have kw := BK8.out.wr
    have kr := BK8.out.rd
    go_wp2
    rw [twelve_set BK8.out]
    refine bodyPost_ret (results_cellt rfl _ _ b0 _ _ (0, 0) _ rfl (setObj_at (lt_of_block BK8.out) _) Tryd.underlying36 rfl (by kernel_rfl)) rfl ?_
    exact ⟨LA, LN, LC, rfl, HLS8.out, BL8.out.trans ((Fr.setObj (F := fun k => k = b0) (Fr.refl _ _) rfl _).below BL8.out.size (fun k hk => by have := HB0.out; omega))⟩
  · have RT := Lib.hid (show RdI w .u8 (some ⟨d, off + 3, none⟩) (n - 3) (c - 3) (q.drop 3) from rdI_end HR.out (m := 3) (by omega))
    refine wp_region_held_drew (S := fun _ => True) (by kernel_rfl) trivial (fun hHeld => ?_)
    refine wpAnyH_take (i := 0) (oi := ?_) (v := ?_) ?_ ?_ ?_ ?_ ?_ ?_ ?_ ?_
    rotate_left 2
    · simp only [List.getElem?_toArray, List.getElem?_cons_succ, List.getElem?_cons_zero]; rfl
    · kernel_rfl
    · kernel_rfl
    · kernel_rfl
    · exact fun _ _ _ h => h
    · refine Or.inl ⟨by rfl, ?_⟩
      intro w' hSw
      (try dsimp only at hSw)
      go_simp
      all_goals (with_reducible rfl)
    · assumption
    try simp only [Act.put, List.setIfInBounds_toArray, List.set_cons_zero, List.set_cons_succ]
    refine wpAnyH_take (i := 1) (oi := ?_) (v := ?_) ?_ ?_ ?_ ?_ ?_ ?_ ?_ ?_
    rotate_left 2
    · simp only [List.getElem?_toArray, List.getElem?_cons_succ, List.getElem?_cons_zero]; rfl
    · kernel_rfl
    · kernel_rfl
    · kernel_rfl
    · exact fun _ _ _ h => h
    · refine Or.inl ⟨by rfl, ?_⟩
      intro w' hSw
      (try dsimp only at hSw)
      go_simp
      all_goals (with_reducible rfl)
    · assumption
    try simp only [Act.put, List.setIfInBounds_toArray, List.set_cons_zero, List.set_cons_succ]
    refine wpAnyH_take (i := 2) (oi := ?_) (v := ?_) ?_ ?_ ?_ ?_ ?_ ?_ ?_ ?_
    rotate_left 2
    · simp only [List.getElem?_toArray, List.getElem?_cons_succ, List.getElem?_cons_zero]; rfl
    · kernel_rfl
    · kernel_rfl
    · kernel_rfl
    · exact fun _ _ _ h => h
    · refine Or.inl ⟨by rfl, ?_⟩
      intro w' hSw
      (try dsimp only at hSw)
      go_simp
      all_goals (with_reducible rfl)
    · assumption
    try simp only [Act.put, List.setIfInBounds_toArray, List.set_cons_zero, List.set_cons_succ]
    refine wpAnyH_ready (rs := [3]) (by kernel_rfl) (by simp) ?_
    refine AllReadyH.cons (o := ?_) ?_ ?_ ?_
    rotate_left 1
    · simp only [List.getElem?_toArray, List.getElem?_cons_succ, List.getElem?_cons_zero]; rfl
    rotate_left 1
    · exact AllReadyH.nil
    intro K hK
    go_simp
    ((with_reducible refine (CN2.out _ S5.out).mono ?_); rintro e w6 ⟨rfl, s6, f6⟩; have BK6 := Lib.hid ((show Blk w5.drew b0 36 (sdC 0 0 0 0 0 0 0 0 0 0 nilV 0) from BK5.out.drew).fr f6 NE.out.2.1); have BQ6 := Lib.hid ((show Blk w5.drew b1 36 (sdC op v 0 0 0 0 0 0 0 0 nilV 0) from BQ5.out.drew).fr f6 NE.out.2.2.1); have BL6 := Lib.hid (BL5d.out.trans (f6.below BL5d.out.size (fun k hk => by have h1 := HB0.out; have h2 := HB1.out; omega))); clear s6 f6)
    refine hK.out _ _ trivial (fun hHeld => ?_)
    clear hK K
    try simp only [Act.put, List.setIfInBounds_toArray, List.set_cons_zero, List.set_cons_succ]
    refine wpAnyH_take (i := 4) (oi := ?_) (v := ?_) ?_ ?_ ?_ ?_ ?_ ?_ ?_ ?_
    rotate_left 2
    · simp only [List.getElem?_toArray, List.getElem?_cons_succ, List.getElem?_cons_zero]; rfl
    · kernel_rfl
    · kernel_rfl
    · kernel_rfl
    · exact fun _ _ _ h => h
    · refine Or.inl ⟨by rfl, ?_⟩
      intro w' hSw
      (try dsimp only at hSw)
      go_simp
      all_goals (with_reducible rfl)
    · assumption
    try simp only [Act.put, List.setIfInBounds_toArray, List.set_cons_zero, List.set_cons_succ]
    refine wpAnyH_ready (rs := [5]) (by kernel_rfl) (by simp) ?_
    refine AllReadyH.cons (o := ?_) ?_ ?_ ?_
    rotate_left 1
    · simp only [List.getElem?_toArray, List.getElem?_cons_succ, List.getElem?_cons_zero]; rfl
    rotate_left 1
    · exact AllReadyH.nil
    intro K hK
    go_simp
    ((with_reducible refine (CL.out _ _ _ _ (RT.out.below BL6.out) (by omega)).mono ?_); rintro e w7 ⟨lv, rfl, ⟨LA, LN, LC, rfl⟩, hls, b7⟩; have HLS := Lib.hid hls; have BK7 := Lib.hid (BK6.out.keep b7); have BQ7 := Lib.hid (BQ6.out.keep b7); have BL7 := Lib.hid (BL6.out.trans (b7.mono BL6.out.size)); have B7 := Lib.hid b7; clear hls b7)
    refine hK.out _ _ trivial (fun hHeld => ?_)
    clear hK K
    try simp only [Act.put, List.setIfInBounds_toArray, List.set_cons_zero, List.set_cons_succ]
    refine wpAnyH_take (i := 6) (oi := ?_) (v := ?_) ?_ ?_ ?_ ?_ ?_ ?_ ?_ ?_
    rotate_left 2
    · simp only [List.getElem?_toArray, List.getElem?_cons_succ, List.getElem?_cons_zero]; rfl
    · kernel_rfl
    · kernel_rfl
    · kernel_rfl
    · exact fun _ _ _ h => h
    · refine Or.inl ⟨by rfl, ?_⟩
      intro w' hSw
      (try dsimp only at hSw)
      go_simp
      all_goals (with_reducible rfl)
    · assumption
    try simp only [Act.put, List.setIfInBounds_toArray, List.set_cons_zero, List.set_cons_succ]
    refine wpAnyH_take (i := 7) (oi := ?_) (v := ?_) ?_ ?_ ?_ ?_ ?_ ?_ ?_ ?_
    rotate_left 2
    · simp only [List.getElem?_toArray, List.getElem?_cons_succ, List.getElem?_cons_zero]; rfl
    · kernel_rfl
    · kernel_rfl
    · kernel_rfl
    · exact fun _ _ _ h => h
    · refine Or.inl ⟨by rfl, ?_⟩
      intro w' hSw
      (try dsimp only at hSw)
      go_simp
      all_goals (with_reducible rfl)
    · assumption
    try simp only [Act.put, List.setIfInBounds_toArray, List.set_cons_zero, List.set_cons_succ]
    refine wpAnyH_take (i := 8) (oi := ?_) (v := ?_) ?_ ?_ ?_ ?_ ?_ ?_ ?_ ?_
    rotate_left 2
    · simp only [List.getElem?_toArray, List.getElem?_cons_succ, List.getElem?_cons_zero]; rfl
    · kernel_rfl
    · kernel_rfl
    · kernel_rfl
    · exact fun _ _ _ h => h
    · refine Or.inl ⟨by rfl, ?_⟩
      intro w' hSw
      (try dsimp only at hSw)
      go_simp
      all_goals (with_reducible rfl)
    · assumption
    try simp only [Act.put, List.setIfInBounds_toArray, List.set_cons_zero, List.set_cons_succ]
    refine wpAnyH_take (i := 9) (oi := ?_) (v := ?_) ?_ ?_ ?_ ?_ ?_ ?_ ?_ ?_
    rotate_left 2
    · simp only [List.getElem?_toArray, List.getElem?_cons_succ, List.getElem?_cons_zero]; rfl
    · kernel_rfl
    · kernel_rfl
    · kernel_rfl
    · exact fun _ _ _ h => h
    · refine Or.inl ⟨by rfl, ?_⟩
      intro w' hSw
      (try dsimp only at hSw)
      go_simp
      all_goals (with_reducible rfl)
    · assumption
    try simp only [Act.put, List.setIfInBounds_toArray, List.set_cons_zero, List.set_cons_succ]
    refine wpAnyH_take (i := 10) (oi := ?_) (v := ?_) ?_ ?_ ?_ ?_ ?_ ?_ ?_ ?_
    rotate_left 2
    · simp only [List.getElem?_toArray, List.getElem?_cons_succ, List.getElem?_cons_zero]; rfl
    · kernel_rfl
    · kernel_rfl
    · kernel_rfl
    · exact fun _ _ _ h => h
    · refine Or.inl ⟨by rfl, ?_⟩
      intro w' hSw
      (try dsimp only at hSw)
      go_simp
      all_goals (with_reducible rfl)
    · assumption
    try simp only [Act.put, List.setIfInBounds_toArray, List.set_cons_zero, List.set_cons_succ]
    refine wpAnyH_done (by kernel_rfl) ?_ _
    clear hHeld
    have k7 := BQ7.out.rd
    have q7 := BQ7.out.wr
    go_upto_region 16 with (fail)
    have BQ8 := Lib.hid (show Blk (w7.setCell ⟨b1, 10, none⟩ (.slice LA LN LC)) b1 36 (sdC op v 0 0 0 0 0 0 0 0 (.slice LA LN LC) 0) from by rw [setCell_obj BQ7.out]; exact setObj_at (lt_of_block BQ7.out) _)
    have FR8 := Lib.hid (fr_set (i := 10) (v := .slice LA LN LC) BQ7.out)
    obtain ⟨w8, hw8⟩ : ∃ w8, w8 = (w7.setCell ⟨b1, 10, none⟩ (.slice LA LN LC)) := ⟨_, rfl⟩
    rw [← hw8] at BQ8 FR8 ⊢
    have BK8 := Lib.hid (BK7.out.fr FR8.out NE.out.1)
    have BL8 := Lib.hid (BL7.out.trans (FR8.out.below BL7.out.size (fun k hk => by have h1 := HB0.out; have h2 := HB1.out; omega)))
    have HLS8 := Lib.hid (fun (l : List Cnt) (hl : r = some l) => show ∃ ls : List CV, zs ls = l ∧ (setObj w8 b0 (.cells (sdC op v 0 0 0 0 0 0 0 0 (.slice LA LN LC) 0) 36 (0, 0))).ownsRow w.heap.size 29 3 (.slice LA LN LC) ls.length (cells3 ls) from by
      obtain ⟨ls, h1, h2⟩ := HLS.out l hl
      have h6 := BL6.out.size
      have g1 := lt_of_block BQ6.out
      have h3 := owns_fr h2 FR8.out (fun g hg => by have h4 := (owns_lt h2 g hg).1; have g2 := HB1.out; omega)
      have h5 := owns_fr h3 (Fr.setObj (F := fun k => k = b0) (Fr.refl _ _) rfl (.cells (sdC op v 0 0 0 0 0 0 0 0 (.slice LA LN LC) 0) 36 (0, 0))) (fun g hg => by have h4 := (owns_lt h2 g hg).1; have g2 := HB1.out; omega)
      refine ⟨ls, h1, h5.1, ?_⟩
      rcases h5.2 with h0 | ⟨g, cap, cur, hv, hb, hr⟩
      · exact .inl h0
      · exact .inr ⟨g, cap, cur, hv, by omega, hr⟩)
    clear hw8 k7 q7
    have k8 := BQ8.out.rd
    have kw := BK8.out.wr
    have kr := BK8.out.rd
    go_wp2
    rw [twelve_set BK8.out]
    refine bodyPost_ret (results_cellt rfl _ _ b0 _ _ (0, 0) _ rfl (setObj_at (lt_of_block BK8.out) _) Tryd.underlying36 rfl (by kernel_rfl)) rfl ?_
    exact ⟨LA, LN, LC, rfl, HLS8.out, BL8.out.trans ((Fr.setObj (F := fun k => k = b0) (Fr.refl _ _) rfl _).below BL8.out.size (fun k hk => by have := HB0.out; omega))⟩
set_option maxHeartbeats 8000000 in
set_option maxRecDepth 100000 in
theorem csaid_no (A : Option Addr) (n c : Nat) (q : List Int) (op : Int) (w : World) (hr : RdI w .u8 A n c q) (h0 : q.getD 0 0 = 128 + op) (hop : 0 ≤ op) (h2 : 2 ≤ n) (ho : ¬ ((op = 1 ∨ op = 2) ∧ n = 18)) (ho3 : ¬ (op = 3 ∧ n = 42)) (ho4 : ¬ (op = 4 ∧ 3 ≤ n)) (ho5 : ¬ (op = 127 ∧ n = 2)) :
    Calls Tryd.prog 19 #[.slice A n c] w fun e w' => ∃ sv, e = .returned (.tuple #[sv, .bool false]) ∧ isSd sv ∧ Below w.heap.size w w' := by
  have hcp := hr.cap
  have hmx := hr.max
  unfold maxLen at hmx
  obtain ⟨d, off, rfl, hlt, hc⟩ := hr.at_ (by omega)
  have hby : byt q := fun x hx => wf_u8 (hr.wf x hx)
  have HR := Lib.hid hr
  have HL := Lib.hid hr.len
  have HBY := Lib.hid hby
  have HDL := Lib.hid hlt
  have hb0 := byt_getD hby 0
  have c00 := hc 0 (by omega)
  obtain ⟨y, hy⟩ : ∃ y, y = 128 + op := ⟨_, rfl⟩
  rw [h0, ← hy] at hb0 c00
  rw [Nat.add_zero] at c00
  have e0 : y - 128 = op := by omega
  have e1 : IntKind.u8.wrap op = op := by rw [IntKind.wrap_u8]; omega
  have e2 : IntKind.i64.wrap op = op := by rw [IntKind.wrap_i64]; omega
  have t1 : ¬ (n : Int) < 2 := by omega
  have t2 : ¬ y < 128 := by omega
  have g0 : (0 : Int) < (n : Int) := by omega
  have g1 : (1 : Int) ≤ (n : Int) := by omega
  have g2 : (n : Int) ≤ (c : Int) := by omega
  have g3 : ¬ c = 1 := by omega
  have HY := Lib.hid hy
  have HOP := Lib.hid hop
  clear hr hc hby hy h0 hlt hop
  have HO := Lib.hid (And.intro ho (And.intro ho3 (And.intro ho4 ho5)))
  clear ho ho3 ho4 ho5
  go_enter Tryd.func19, Tryd.ntmps19
  go_upto_region 1 with (fail)
  obtain ⟨w1, hw1, hbk, hbl, hsz1⟩ := box_new w (sdC 0 0 0 0 0 0 0 0 0 0 nilV 0) 36
  change Code.wp _ _ _ _ (w.alloc (.cells (sdC 0 0 0 0 0 0 0 0 0 0 nilV 0) 36))
  rw [hw1]
  obtain ⟨b0, hb0⟩ : ∃ b0, b0 = w.heap.size := ⟨_, rfl⟩
  rw [← hb0] at hbk hsz1 ⊢
  have HB0 := Lib.hid hb0
  have BK := Lib.hid hbk
  have BL := Lib.hid hbl
  have S1 := Lib.hid hsz1
  have c01 : w1.cell? ⟨d, off, none⟩ = some (.int .u8 y) := by rw [← c00]; exact hbl.cell (p := ⟨d, off, none⟩) HDL.out
  clear hbk hbl hsz1 hw1 hb0 c00
  go_upto_region 4 with (fail)
  obtain ⟨w2, hw2, hbk, hbl, hsz2⟩ := box_new w1 (sdC op 0 0 0 0 0 0 0 0 0 nilV 0) 36
  change Code.wp _ _ _ _ (w1.alloc (.cells (sdC op 0 0 0 0 0 0 0 0 0 nilV 0) 36))
  rw [hw2]
  obtain ⟨b1, hb1⟩ : ∃ b1, b1 = w1.heap.size := ⟨_, rfl⟩
  rw [← hb1] at hbk hsz2 ⊢
  have HB1 := Lib.hid (show b1 = b0 + 1 from by rw [hb1, S1.out])
  have S2 := Lib.hid hsz2
  have BQ2 := Lib.hid hbk
  have BK2 := Lib.hid (BK.out.keep hbl)
  have BL2 := Lib.hid (BL.out.trans (hbl.mono BL.out.size))
  have R1 := Lib.hid (show RdI w2 .u8 (some ⟨d, off + 1, none⟩) (n - 1) (c - 1) (q.drop 1) from (rdI_end HR.out (m := 1) (by omega)).below BL2.out)
  have HD2 := Lib.hid (show d < w2.heap.size from Nat.lt_of_lt_of_le HDL.out BL2.out.size)
  have HDN := Lib.hid (show d ≠ b1 + 1 ∧ d ≠ b1 ∧ d ≠ b0 from by have h1 := HB0.out; have h2 := HB1.out; have h3 := HDL.out; omega)
  have CR := Lib.hid (reader_any _ _ _ d _ _ R1.out (fun _ => ⟨_, rfl⟩) HD2.out (b1 + 1) S2.out)
  clear hbk hbl hsz2 hw2 hb1 c01
  go_upto_region 5 with (go_at_call 24; ((with_reducible refine CR.out.mono ?_); rintro e w3 ⟨rfl, s3, b3⟩; have S3 := Lib.hid s3; have B3 := Lib.hid b3; clear s3 b3))
  have BK3 := Lib.hid (BK2.out.keep B3.out)
  have BQ3 := Lib.hid (BQ2.out.keep B3.out)
  have BL3 := Lib.hid (BL2.out.trans (B3.out.mono BL2.out.size))
  have NE := Lib.hid (show b0 ≠ b1 ∧ b0 ≠ b1 + 1 ∧ b1 ≠ b1 + 1 ∧ b1 ≠ b0 from by have := HB1.out; omega)
  have k3 := BQ3.out.rd
  have kw := BK3.out.wr
  have kr := BK3.out.rd
  have HW : ((op == 1) = true ∧ ((n : Int) == 18) = false) ∨ ((op == 1) = false ∧ (op == 2) = true ∧ ((n : Int) == 18) = false) ∨ ((op == 1) = false ∧ (op == 2) = false ∧ (op == 3) = true ∧ ((n : Int) == 42) = false) ∨ ((op == 1) = false ∧ (op == 2) = false ∧ (op == 3) = false ∧ (op == 4) = true ∧ ¬ (3 : Int) ≤ (n : Int)) ∨ ((op == 1) = false ∧ (op == 2) = false ∧ (op == 3) = false ∧ (op == 4) = false ∧ (op == 127) = true ∧ ((n : Int) == 2) = false) ∨ ((op == 1) = false ∧ (op == 2) = false ∧ (op == 3) = false ∧ (op == 4) = false ∧ (op == 127) = false) := by
    obtain ⟨h1, h2, h3, h4⟩ := HO.out
    simp only [beq_iff_eq, beq_eq_false_iff_ne]
    by_cases g1 : op = 1
    · exact .inl ⟨g1, fun e => h1 ⟨.inl g1, by omega⟩⟩
    by_cases g2 : op = 2
    · exact .inr (.inl ⟨g1, g2, fun e => h1 ⟨.inr g2, by omega⟩⟩)
    by_cases g3 : op = 3
    · exact .inr (.inr (.inl ⟨g1, g2, g3, fun e => h2 ⟨g3, by omega⟩⟩))
    by_cases g4 : op = 4
    · exact .inr (.inr (.inr (.inl ⟨g1, g2, g3, g4, fun e => h3 ⟨g4, by omega⟩⟩)))
    by_cases g5 : op = 127
    · exact .inr (.inr (.inr (.inr (.inl ⟨g1, g2, g3, g4, g5, fun e => h4 ⟨g5, by omega⟩⟩))))
    · exact .inr (.inr (.inr (.inr (.inr ⟨g1, g2, g3, g4, g5⟩))))
  rcases HW with ⟨u1, u2⟩ | ⟨u1, u2, u3⟩ | ⟨u1, u2, u3, u4⟩ | ⟨u1, u2, u3, u4, u5⟩ | ⟨u1, u2, u3, u4, u5, u6⟩ | ⟨u1, u2, u3, u4, u5⟩
  · have v3 : (op == 3) = false := by have := eq_of_beq u1; rw [this]; rfl
    have v4 : (op == 4) = false := by have := eq_of_beq u1; rw [this]; rfl
    have v127 : (op == 127) = false := by have := eq_of_beq u1; rw [this]; rfl
    go_wp2
    rw [twelve_set BK3.out]
    refine bodyPost_ret (results_cellt rfl _ _ b0 _ _ (0, 0) _ rfl (setObj_at (lt_of_block BK3.out) _) Tryd.underlying36 rfl (by kernel_rfl)) rfl ?_
    first | exact ⟨_, rfl, isSd_mk _ _ _ _ _ _ _ _ _ _ _ _ _ _, BL3.out.trans ((Fr.setObj (F := fun k => k = b0) (Fr.refl _ _) rfl _).below BL3.out.size (fun k hk => by have := HB0.out; omega))⟩ | exact ⟨isSd_mk _ _ _ _ _ _ _ _ _ _ _ _ _ _, BL3.out.trans ((Fr.setObj (F := fun k => k = b0) (Fr.refl _ _) rfl _).below BL3.out.size (fun k hk => by have := HB0.out; omega))⟩
  · have v3 : (op == 3) = false := by have := eq_of_beq u2; rw [this]; rfl
    have v4 : (op == 4) = false := by have := eq_of_beq u2; rw [this]; rfl
    have v127 : (op == 127) = false := by have := eq_of_beq u2; rw [this]; rfl
    go_wp2
    rw [twelve_set BK3.out]
    refine bodyPost_ret (results_cellt rfl _ _ b0 _ _ (0, 0) _ rfl (setObj_at (lt_of_block BK3.out) _) Tryd.underlying36 rfl (by kernel_rfl)) rfl ?_
    first | exact ⟨_, rfl, isSd_mk _ _ _ _ _ _ _ _ _ _ _ _ _ _, BL3.out.trans ((Fr.setObj (F := fun k => k = b0) (Fr.refl _ _) rfl _).below BL3.out.size (fun k hk => by have := HB0.out; omega))⟩ | exact ⟨isSd_mk _ _ _ _ _ _ _ _ _ _ _ _ _ _, BL3.out.trans ((Fr.setObj (F := fun k => k = b0) (Fr.refl _ _) rfl _).below BL3.out.size (fun k hk => by have := HB0.out; omega))⟩
  · have v4 : (op == 4) = false := by have := eq_of_beq u3; rw [this]; rfl
    have v127 : (op == 127) = false := by have := eq_of_beq u3; rw [this]; rfl
    go_wp2
    rw [twelve_set BK3.out]
    refine bodyPost_ret (results_cellt rfl _ _ b0 _ _ (0, 0) _ rfl (setObj_at (lt_of_block BK3.out) _) Tryd.underlying36 rfl (by kernel_rfl)) rfl ?_
    first | exact ⟨_, rfl, isSd_mk _ _ _ _ _ _ _ _ _ _ _ _ _ _, BL3.out.trans ((Fr.setObj (F := fun k => k = b0) (Fr.refl _ _) rfl _).below BL3.out.size (fun k hk => by have := HB0.out; omega))⟩ | exact ⟨isSd_mk _ _ _ _ _ _ _ _ _ _ _ _ _ _, BL3.out.trans ((Fr.setObj (F := fun k => k = b0) (Fr.refl _ _) rfl _).below BL3.out.size (fun k hk => by have := HB0.out; omega))⟩
  · have v127 : (op == 127) = false := by have := eq_of_beq u4; rw [this]; rfl
    go_wp2
    rw [twelve_set BK3.out]
    refine bodyPost_ret (results_cellt rfl _ _ b0 _ _ (0, 0) _ rfl (setObj_at (lt_of_block BK3.out) _) Tryd.underlying36 rfl (by kernel_rfl)) rfl ?_
    first | exact ⟨_, rfl, isSd_mk _ _ _ _ _ _ _ _ _ _ _ _ _ _, BL3.out.trans ((Fr.setObj (F := fun k => k = b0) (Fr.refl _ _) rfl _).below BL3.out.size (fun k hk => by have := HB0.out; omega))⟩ | exact ⟨isSd_mk _ _ _ _ _ _ _ _ _ _ _ _ _ _, BL3.out.trans ((Fr.setObj (F := fun k => k = b0) (Fr.refl _ _) rfl _).below BL3.out.size (fun k hk => by have := HB0.out; omega))⟩
  · skip
    go_wp2
    rw [twelve_set BK3.out]
    refine bodyPost_ret (results_cellt rfl _ _ b0 _ _ (0, 0) _ rfl (setObj_at (lt_of_block BK3.out) _) Tryd.underlying36 rfl (by kernel_rfl)) rfl ?_
    first | exact ⟨_, rfl, isSd_mk _ _ _ _ _ _ _ _ _ _ _ _ _ _, BL3.out.trans ((Fr.setObj (F := fun k => k = b0) (Fr.refl _ _) rfl _).below BL3.out.size (fun k hk => by have := HB0.out; omega))⟩ | exact ⟨isSd_mk _ _ _ _ _ _ _ _ _ _ _ _ _ _, BL3.out.trans ((Fr.setObj (F := fun k => k = b0) (Fr.refl _ _) rfl _).below BL3.out.size (fun k hk => by have := HB0.out; omega))⟩
  · skip
    go_wp2
    rw [twelve_set BK3.out]
    refine bodyPost_ret (results_cellt rfl _ _ b0 _ _ (0, 0) _ rfl (setObj_at (lt_of_block BK3.out) _) Tryd.underlying36 rfl (by kernel_rfl)) rfl ?_
    first | exact ⟨_, rfl, isSd_mk _ _ _ _ _ _ _ _ _ _ _ _ _ _, BL3.out.trans ((Fr.setObj (F := fun k => k = b0) (Fr.refl _ _) rfl _).below BL3.out.size (fun k hk => by have := HB0.out; omega))⟩ | exact ⟨isSd_mk _ _ _ _ _ _ _ _ _ _ _ _ _ _, BL3.out.trans ((Fr.setObj (F := fun k => k = b0) (Fr.refl _ _) rfl _).below BL3.out.size (fun k hk => by have := HB0.out; omega))⟩
end Go.Proofs.YtghhoofdbmgacaaDoor
