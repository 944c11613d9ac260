/- The contracts of layer 13 (frame): what an answer says. -/
import Derived.Test.YtghhoofdbmgacaaDoorFaQ
import Derived.Deep.RegionHeld
namespace Go.Proofs.YtghhoofdbmgacaaDoor
set_option linter.unusedSimpArgs false
set_option linter.unusedVariables false
open Go.ChangeShapes Go.WideShapes Go.ChangeAt Go.RowKit Go.Deep
abbrev nilV : Value := .slice none 0 0
abbrev sdC (op rule v rem ret a d b c wt : Int) (lv : Value) (e : Int) : Array Value := #[.int .i64 op, .int .i64 rule, .int .i64 v, .int .i64 rem, .int .i64 ret, .int .i64 a, .int .i64 d, .int .i64 b, .int .i64 c, .int .i64 wt, lv, .int .i64 e]
def sdV (s : Sd) (lv : Value) : Array Value := sdC s.op s.rule s.v s.rem s.ret s.a s.d s.b s.c s.wt lv s.err
theorem results_cellt {P : Program} {fn : Func} {p u1 : Tmp} {ty : TypeId} (h : fn.results = #[.cell p ty, .tmp u1]) (tmps : Array Value) (w : World) (g : Nat) (t : TypeId) (cs : Array Value) (fr : Nat × Nat) (d : TypeDesc)
    (hp : tmps.getD p undef = .pointer (some ⟨g, 0, none⟩)) (hg : w.heap[g]? = some (.cells cs t fr))
    (hu : P.underlying ty = some d) (hd : (match d with | .struct _ | .array _ _ => true | _ => false) = true) (hi : (P.info? ty).map (·.size) = some cs.size) :
    (results fn tmps).run P w = .ok (.tuple #[.agg cs, tmps.getD u1 undef]) w := by
  have hp' : tmps[p]?.getD undef = .pointer (some ⟨g, 0, none⟩) := by simpa using hp
  simp [results, h, hp', asAddr, run_loadVar_row w g t ty cs fr d hg hu hd hi]
theorem twelve_set {w : World} {b : Nat} {t : TypeId} {a0 a1 a2 a3 a4 a5 a6 a7 a8 a9 a10 a11 v0 v1 v2 v3 v4 v5 v6 v7 v8 v9 v10 v11 : Value} (h : Blk w b t #[a0, a1, a2, a3, a4, a5, a6, a7, a8, a9, a10, a11]) :
    ((((((((((((w.setCell ⟨b, 0, none⟩ v0).setCell ⟨b, 1, none⟩ v1).setCell ⟨b, 2, none⟩ v2).setCell ⟨b, 3, none⟩ v3).setCell ⟨b, 4, none⟩ v4).setCell ⟨b, 5, none⟩ v5).setCell ⟨b, 6, none⟩ v6).setCell ⟨b, 7, none⟩ v7).setCell ⟨b, 8, none⟩ v8).setCell ⟨b, 9, none⟩ v9).setCell ⟨b, 10, none⟩ v10).setCell ⟨b, 11, none⟩ v11) = setObj w b (.cells #[v0, v1, v2, v3, v4, v5, v6, v7, v8, v9, v10, v11] t (0, 0)) := by
  have hl := lt_of_block h
  rw [setCell_obj h]
  simp only [setCell_in hl, List.setIfInBounds_toArray, List.set_cons_zero, List.set_cons_succ]
theorem blk_row3 {w : World} {b i : Nat} {t : TypeId} {c : Array Value} {v0 v1 v2 : Value} (h : Blk w b t c) :
    (((w.setCell ⟨b, i, none⟩ v0).setCell ⟨b, i + 1, none⟩ v1).setCell ⟨b, i + 2, none⟩ v2) = setObj w b (.cells (((c.setIfInBounds i v0).setIfInBounds (i + 1) v1).setIfInBounds (i + 2) v2) t (0, 0)) := by
  have hl := lt_of_block h
  rw [setCell_obj h]
  simp only [setCell_in hl]
theorem blk_row5 {w : World} {b i : Nat} {t : TypeId} {c : Array Value} {v0 v1 v2 v3 v4 : Value} (h : Blk w b t c) :
    (((((w.setCell ⟨b, i, none⟩ v0).setCell ⟨b, i + 1, none⟩ v1).setCell ⟨b, i + 2, none⟩ v2).setCell ⟨b, i + 3, none⟩ v3).setCell ⟨b, i + 4, none⟩ v4) = setObj w b (.cells (((((c.setIfInBounds i v0).setIfInBounds (i + 1) v1).setIfInBounds (i + 2) v2).setIfInBounds (i + 3) v3).setIfInBounds (i + 4) v4) t (0, 0)) := by
  have hl := lt_of_block h
  rw [setCell_obj h]
  simp only [setCell_in hl]
/-- a struct of that type, whatever it says. -/
def isSd (v : Value) : Prop := ∃ o ru v1 re rt a d b c wt LA LN LC er, v = .agg (sdC o ru v1 re rt a d b c wt (.slice LA LN LC) er)
theorem isSd_mk (o ru v1 re rt a d b c wt er : Int) (LA : Option Addr) (LN LC : Nat) : isSd (.agg #[.int .i64 o, .int .i64 ru, .int .i64 v1, .int .i64 re, .int .i64 rt, .int .i64 a, .int .i64 d, .int .i64 b, .int .i64 c, .int .i64 wt, .slice LA LN LC, .int .i64 er]) := ⟨o, ru, v1, re, rt, a, d, b, c, wt, LA, LN, LC, er, rfl⟩
theorem u64_i64 {x : Int} (h : 0 ≤ x ∧ x ≤ 255) : IntKind.i64.wrap x = x := by rw [IntKind.wrap_i64]; omega
set_option maxHeartbeats 8000000 in
set_option maxRecDepth 100000 in
theorem csaid_ans_ok (A : Option Addr) (n c : Nat) (q : List Int) (op : Int) (w : World) (hr : RdI w .u8 A n c q) (h0 : q.getD 0 0 = 128 + op) (hop : 0 ≤ op) (h2 : 2 ≤ n) (ho : op = 1 ∨ op = 2) (h18 : n = 18) (hv : 1 ≤ q.getD 1 0 ∧ q.getD 1 0 ≤ 3) :
    Calls Tryd.prog 19 #[.slice A n c] w fun e w' => e = .returned (.tuple #[.agg (sdC op 0 (q.getD 1 0) (num8 (q.drop 2)) (num8 (q.drop 10)) 0 0 0 0 0 nilV 0), .bool true]) ∧ Below w.heap.size w w' := by
  have hcp := hr.cap
  have hmx := hr.max
  unfold maxLen at hmx
  obtain ⟨d, off, rfl, hlt, hc⟩ := hr.at_ (by omega)
  have hby : byt q := fun x hx => wf_u8 (hr.wf x hx)
  have HR := Lib.hid hr
  have HL := Lib.hid hr.len
  have HBY := Lib.hid hby
  have HDL := Lib.hid hlt
  have hb0 := byt_getD hby 0
  have c00 := hc 0 (by omega)
  obtain ⟨y, hy⟩ : ∃ y, y = 128 + op := ⟨_, rfl⟩
  rw [h0, ← hy] at hb0 c00
  rw [Nat.add_zero] at c00
  have e0 : y - 128 = op := by omega
  have e1 : IntKind.u8.wrap op = op := by rw [IntKind.wrap_u8]; omega
  have e2 : IntKind.i64.wrap op = op := by rw [IntKind.wrap_i64]; omega
  have t1 : ¬ (n : Int) < 2 := by omega
  have t2 : ¬ y < 128 := by omega
  have g0 : (0 : Int) < (n : Int) := by omega
  have g1 : (1 : Int) ≤ (n : Int) := by omega
  have g2 : (n : Int) ≤ (c : Int) := by omega
  have g3 : ¬ c = 1 := by omega
  have HY := Lib.hid hy
  have HOP := Lib.hid hop
  clear hr hc hby hy h0 hlt hop
  have HV := Lib.hid hv
  have t12 : (op == 1) = true ∨ ((op == 1) = false ∧ (op == 2) = true) := by rcases ho with rfl | rfl <;> simp
  subst h18
  clear hv ho
  obtain ⟨v, hv⟩ : ∃ x, x = q.getD 1 0 := ⟨_, rfl⟩
  have hvb := byt_getD HBY.out 1
  rw [← hv] at hvb
  have Hv := Lib.hid hv
  have Pv := Lib.hid (show preZ (q.drop 1) 1 = v from by rw [pre1, hv]; simp [List.getD])
  have ev : IntKind.i64.wrap v = v := u64_i64 hvb
  clear hv
  obtain ⟨X, hX⟩ : ∃ x, x = preZ (q.drop 2) 8 := ⟨_, rfl⟩
  have hXb := pre8_bd (byt_drop HBY.out 2)
  rw [← hX] at hXb
  obtain ⟨rem, hrem⟩ : ∃ x, x = num8 (q.drop 2) := ⟨_, rfl⟩
  have eX : IntKind.i64.wrap X = rem := by rw [hrem]; unfold num8; rw [← hX]; exact wrap_sg hXb
  have Hrem := Lib.hid hrem
  have HX := Lib.hid hX
  clear hX hXb hrem
  obtain ⟨Y, hYY⟩ : ∃ x, x = preZ (q.drop 10) 8 := ⟨_, rfl⟩
  have hYb := pre8_bd (byt_drop HBY.out 10)
  rw [← hYY] at hYb
  obtain ⟨ret, hret⟩ : ∃ x, x = num8 (q.drop 10) := ⟨_, rfl⟩
  have eY : IntKind.i64.wrap Y = ret := by rw [hret]; unfold num8; rw [← hYY]; exact wrap_sg hYb
  have Hret := Lib.hid hret
  have HYY := Lib.hid hYY
  clear hYY hYb hret
  rw [← Hv.out] at HV
  rw [← Hv.out, ← Hrem.out, ← Hret.out]
  go_enter Tryd.func19, Tryd.ntmps19
  go_upto_region 1 with (fail)
  obtain ⟨w1, hw1, hbk, hbl, hsz1⟩ := box_new w (sdC 0 0 0 0 0 0 0 0 0 0 nilV 0) 36
  change Code.wp _ _ _ _ (w.alloc (.cells (sdC 0 0 0 0 0 0 0 0 0 0 nilV 0) 36))
  rw [hw1]
  obtain ⟨b0, hb0⟩ : ∃ b0, b0 = w.heap.size := ⟨_, rfl⟩
  rw [← hb0] at hbk hsz1 ⊢
  have HB0 := Lib.hid hb0
  have BK := Lib.hid hbk
  have BL := Lib.hid hbl
  have S1 := Lib.hid hsz1
  have c01 : w1.cell? ⟨d, off, none⟩ = some (.int .u8 y) := by rw [← c00]; exact hbl.cell (p := ⟨d, off, none⟩) HDL.out
  clear hbk hbl hsz1 hw1 hb0 c00
  go_upto_region 4 with (fail)
  obtain ⟨w2, hw2, hbk, hbl, hsz2⟩ := box_new w1 (sdC op 0 0 0 0 0 0 0 0 0 nilV 0) 36
  change Code.wp _ _ _ _ (w1.alloc (.cells (sdC op 0 0 0 0 0 0 0 0 0 nilV 0) 36))
  rw [hw2]
  obtain ⟨b1, hb1⟩ : ∃ b1, b1 = w1.heap.size := ⟨_, rfl⟩
  rw [← hb1] at hbk hsz2 ⊢
  have HB1 := Lib.hid (show b1 = b0 + 1 from by rw [hb1, S1.out])
  have S2 := Lib.hid hsz2
  have BQ2 := Lib.hid hbk
  have BK2 := Lib.hid (BK.out.keep hbl)
  have BL2 := Lib.hid (BL.out.trans (hbl.mono BL.out.size))
  have R1 := Lib.hid (show RdI w2 .u8 (some ⟨d, off + 1, none⟩) 17 (c - 1) (q.drop 1) from (rdI_end HR.out (m := 1) (by omega)).below BL2.out)
  have HD2 := Lib.hid (show d < w2.heap.size from Nat.lt_of_lt_of_le HDL.out BL2.out.size)
  have HDN := Lib.hid (show d ≠ b1 + 1 ∧ d ≠ b1 ∧ d ≠ b0 from by have h1 := HB0.out; have h2 := HB1.out; have h3 := HDL.out; omega)
  have CR := Lib.hid (reader_any _ _ _ d _ _ R1.out (fun _ => ⟨_, rfl⟩) HD2.out (b1 + 1) S2.out)
  clear hbk hbl hsz2 hw2 hb1 c01
  go_upto_region 5 with (go_at_call 24; ((with_reducible refine CR.out.mono ?_); rintro e w3 ⟨rfl, s3, b3⟩; have S3 := Lib.hid s3; have B3 := Lib.hid b3; clear s3 b3))
  have BK3 := Lib.hid (BK2.out.keep B3.out)
  have BQ3 := Lib.hid (BQ2.out.keep B3.out)
  have BL3 := Lib.hid (BL2.out.trans (B3.out.mono BL2.out.size))
  have NE := Lib.hid (show b0 ≠ b1 ∧ b0 ≠ b1 + 1 ∧ b1 ≠ b1 + 1 ∧ b1 ≠ b0 from by have := HB1.out; omega)
  have k3 := BQ3.out.rd
  have CN1 := Lib.hid (fun (wx : World) (hx : SrcAt wx (b1 + 1) d (q.drop 1)) => next_x (b1 + 1) d (q.drop 1) (q.drop 2) v 1 1 rfl (by omega) (by rw [List.length_drop, HL.out]; omega) (by omega) wx hx HDN.out.1 Pv.out (by rw [List.drop_drop]))
  have CN2 := Lib.hid (fun (wx : World) (hx : SrcAt wx (b1 + 1) d (q.drop 2)) => next_x (b1 + 1) d (q.drop 2) (q.drop 10) X 8 8 rfl (by omega) (by rw [List.length_drop, HL.out]; omega) (by omega) wx hx HDN.out.1 HX.out.symm (by rw [List.drop_drop]))
  have CN3 := Lib.hid (fun (wx : World) (hx : SrcAt wx (b1 + 1) d (q.drop 10)) => next_x (b1 + 1) d (q.drop 10) (q.drop 18) Y 8 8 rfl (by omega) (by rw [List.length_drop, HL.out]; omega) (by omega) wx hx HDN.out.1 HYY.out.symm (by rw [List.drop_drop]))
  rcases t12 with t1 | ⟨t1, t2⟩
  all_goals
    go_upto_region 7 with (first
      | (go_at_call 27; ((with_reducible refine (CN1.out _ S3.out).mono ?_); rintro e w4 ⟨rfl, s4, f4⟩; have S4 := Lib.hid s4; have BK4 := Lib.hid (BK3.out.fr f4 NE.out.2.1); have BQ4 := Lib.hid (BQ3.out.fr f4 NE.out.2.2.1); have BL4 := Lib.hid (BL3.out.trans (f4.below BL3.out.size (fun k hk => by have h1 := HB0.out; have h2 := HB1.out; omega))); have k4 := BQ4.out.rd; have q4 := BQ4.out.wr; clear s4 f4))
      | (go_at_call 27; ((with_reducible refine (CN2.out _ S4.out).mono ?_); rintro e w5 ⟨rfl, s5, f5⟩; have S5 := Lib.hid s5; have BK5 := Lib.hid (BK4.out.fr f5 NE.out.2.1); have BQ5 := Lib.hid (BQ4.out.fr f5 NE.out.2.2.1); have BL5 := Lib.hid (BL4.out.trans (f5.below BL4.out.size (fun k hk => by have h1 := HB0.out; have h2 := HB1.out; omega))); have k5 := BQ5.out.rd; have q5 := BQ5.out.wr; clear s5 f5))
      | (go_at_call 27; ((with_reducible refine (CN3.out _ S5.out).mono ?_); rintro e w6 ⟨rfl, s6, f6⟩; have S6 := Lib.hid s6; have BK6 := Lib.hid (BK5.out.fr f6 NE.out.2.1); have BQ6 := Lib.hid (BQ5.out.fr f6 NE.out.2.2.1); have BL6 := Lib.hid (BL5.out.trans (f6.below BL5.out.size (fun k hk => by have h1 := HB0.out; have h2 := HB1.out; omega))); have k6 := BQ6.out.rd; have q6 := BQ6.out.wr; clear s6 f6)))
    have BQ7 := Lib.hid (show Blk (((w6.setCell ⟨b1, 2, none⟩ (.int .i64 v)).setCell ⟨b1, 3, none⟩ (.int .i64 rem)).setCell ⟨b1, 4, none⟩ (.int .i64 ret)) b1 36 (sdC op 0 v rem ret 0 0 0 0 0 nilV 0) from by rw [blk_row3 (i := 2) BQ6.out]; exact setObj_at (lt_of_block BQ6.out) _)
    have FR7 := Lib.hid (show Fr (fun k => k = b1) w6 (((w6.setCell ⟨b1, 2, none⟩ (.int .i64 v)).setCell ⟨b1, 3, none⟩ (.int .i64 rem)).setCell ⟨b1, 4, none⟩ (.int .i64 ret)) from by rw [blk_row3 (i := 2) BQ6.out]; exact Fr.setObj (F := fun k => k = b1) (Fr.refl _ _) rfl _)
    obtain ⟨w7, hw7⟩ : ∃ w7, w7 = (((w6.setCell ⟨b1, 2, none⟩ (.int .i64 v)).setCell ⟨b1, 3, none⟩ (.int .i64 rem)).setCell ⟨b1, 4, none⟩ (.int .i64 ret)) := ⟨_, rfl⟩
    rw [← hw7] at BQ7 FR7 ⊢
    have BK7 := Lib.hid (show Blk w7 b0 36 (sdC 0 0 0 0 0 0 0 0 0 0 nilV 0) from BK6.out.fr FR7.out NE.out.1)
    have BL7 := Lib.hid (show Below w.heap.size w w7 from (BL6.out.trans (FR7.out.below BL6.out.size (fun k hk => by have h1 := HB0.out; have h2 := HB1.out; omega))))
    have BQ8 := Lib.hid (show Blk w7.drew b1 36 (sdC op 0 v rem ret 0 0 0 0 0 nilV 0) from BQ7.out.drew)
    clear hw7 k3 k4 k5 k6 q4 q5 q6
    have y1 : ∀ i, w7.drew.cell? ⟨b1, i, none⟩ = (sdC op 0 v rem ret 0 0 0 0 0 nilV 0)[i]? := BQ8.out.rd
    have hv0 := HV.out
    have t5 : (1 : Int) ≤ v := hv0.1
    have t6 : v ≤ (3 : Int) := hv0.2
    have t5' : decide ((1 : Int) ≤ v) = true := decide_eq_true t5
    have t6' : decide (v ≤ (3 : Int)) = true := decide_eq_true t6
    clear hv0
    have kw := BK7.out.wr
    have kr := BK7.out.rd
    refine wp_region_held_drew (S := fun w' => ∀ i, w'.cell? ⟨b1, i, none⟩ = (sdC op 0 v rem ret 0 0 0 0 0 nilV 0)[i]?) (by kernel_rfl) y1 (fun hHeld => ?_)
    clear y1
    refine wpAnyH_take (i := 0) (oi := ?_) (v := ?_) ?_ ?_ ?_ ?_ ?_ ?_ ?_ ?_
    rotate_left 2
    · simp only [List.getElem?_toArray, List.getElem?_cons_succ, List.getElem?_cons_zero]; rfl
    · kernel_rfl
    · kernel_rfl
    · kernel_rfl
    · exact fun _ _ _ h => h
    · refine Or.inl ⟨by rfl, ?_⟩
      intro w' hSw
      (try dsimp only at hSw)
      go_simp
      all_goals (with_reducible rfl)
    · assumption
    try simp only [Act.put, List.setIfInBounds_toArray, List.set_cons_zero, List.set_cons_succ]
    refine wpAnyH_take (i := 1) (oi := ?_) (v := ?_) ?_ ?_ ?_ ?_ ?_ ?_ ?_ ?_
    rotate_left 2
    · simp only [List.getElem?_toArray, List.getElem?_cons_succ, List.getElem?_cons_zero]; rfl
    · kernel_rfl
    · kernel_rfl
    · kernel_rfl
    · exact fun _ _ _ h => h
    · refine Or.inl ⟨by rfl, ?_⟩
      intro w' hSw
      (try dsimp only at hSw)
      go_simp
      all_goals (with_reducible rfl)
    · assumption
    try simp only [Act.put, List.setIfInBounds_toArray, List.set_cons_zero, List.set_cons_succ]
    refine wpAnyH_take (i := 2) (oi := ?_) (v := ?_) ?_ ?_ ?_ ?_ ?_ ?_ ?_ ?_
    rotate_left 2
    · simp only [List.getElem?_toArray, List.getElem?_cons_succ, List.getElem?_cons_zero]; rfl
    · kernel_rfl
    · kernel_rfl
    · kernel_rfl
    · exact fun _ _ _ h => h
    · refine Or.inl ⟨by rfl, ?_⟩
      intro w' hSw
      (try dsimp only at hSw)
      go_simp
      all_goals (with_reducible rfl)
    · assumption
    try simp only [Act.put, List.setIfInBounds_toArray, List.set_cons_zero, List.set_cons_succ]
    refine wpAnyH_take (i := 3) (oi := ?_) (v := ?_) ?_ ?_ ?_ ?_ ?_ ?_ ?_ ?_
    rotate_left 2
    · simp only [List.getElem?_toArray, List.getElem?_cons_succ, List.getElem?_cons_zero]; rfl
    · kernel_rfl
    · kernel_rfl
    · kernel_rfl
    · exact fun _ _ _ h => h
    · refine Or.inl ⟨by rfl, ?_⟩
      intro w' hSw
      (try dsimp only at hSw)
      go_simp
      all_goals (with_reducible rfl)
    · assumption
    try simp only [Act.put, List.setIfInBounds_toArray, List.set_cons_zero, List.set_cons_succ]
    refine wpAnyH_take (i := 4) (oi := ?_) (v := ?_) ?_ ?_ ?_ ?_ ?_ ?_ ?_ ?_
    rotate_left 2
    · simp only [List.getElem?_toArray, List.getElem?_cons_succ, List.getElem?_cons_zero]; rfl
    · kernel_rfl
    · kernel_rfl
    · kernel_rfl
    · exact fun _ _ _ h => h
    · refine Or.inl ⟨by rfl, ?_⟩
      intro w' hSw
      (try dsimp only at hSw)
      go_simp
      all_goals (with_reducible rfl)
    · assumption
    try simp only [Act.put, List.setIfInBounds_toArray, List.set_cons_zero, List.set_cons_succ]
    refine wpAnyH_take (i := 5) (oi := ?_) (v := ?_) ?_ ?_ ?_ ?_ ?_ ?_ ?_ ?_
    rotate_left 2
    · simp only [List.getElem?_toArray, List.getElem?_cons_succ, List.getElem?_cons_zero]; rfl
    · kernel_rfl
    · kernel_rfl
    · kernel_rfl
    · exact fun _ _ _ h => h
    · refine Or.inl ⟨by rfl, ?_⟩
      intro w' hSw
      (try dsimp only at hSw)
      go_simp
      all_goals (with_reducible rfl)
    · assumption
    try simp only [Act.put, List.setIfInBounds_toArray, List.set_cons_zero, List.set_cons_succ]
    refine wpAnyH_take (i := 6) (oi := ?_) (v := ?_) ?_ ?_ ?_ ?_ ?_ ?_ ?_ ?_
    rotate_left 2
    · simp only [List.getElem?_toArray, List.getElem?_cons_succ, List.getElem?_cons_zero]; rfl
    · kernel_rfl
    · kernel_rfl
    · kernel_rfl
    · exact fun _ _ _ h => h
    · refine Or.inl ⟨by rfl, ?_⟩
      intro w' hSw
      (try dsimp only at hSw)
      go_simp
      all_goals (with_reducible rfl)
    · assumption
    try simp only [Act.put, List.setIfInBounds_toArray, List.set_cons_zero, List.set_cons_succ]
    refine wpAnyH_take (i := 7) (oi := ?_) (v := ?_) ?_ ?_ ?_ ?_ ?_ ?_ ?_ ?_
    rotate_left 2
    · simp only [List.getElem?_toArray, List.getElem?_cons_succ, List.getElem?_cons_zero]; rfl
    · kernel_rfl
    · kernel_rfl
    · kernel_rfl
    · exact fun _ _ _ h => h
    · refine Or.inl ⟨by rfl, ?_⟩
      intro w' hSw
      (try dsimp only at hSw)
      go_simp
      all_goals (with_reducible rfl)
    · assumption
    try simp only [Act.put, List.setIfInBounds_toArray, List.set_cons_zero, List.set_cons_succ]
    refine wpAnyH_take (i := 8) (oi := ?_) (v := ?_) ?_ ?_ ?_ ?_ ?_ ?_ ?_ ?_
    rotate_left 2
    · simp only [List.getElem?_toArray, List.getElem?_cons_succ, List.getElem?_cons_zero]; rfl
    · kernel_rfl
    · kernel_rfl
    · kernel_rfl
    · exact fun _ _ _ h => h
    · refine Or.inl ⟨by rfl, ?_⟩
      intro w' hSw
      (try dsimp only at hSw)
      go_simp
      all_goals (with_reducible rfl)
    · assumption
    try simp only [Act.put, List.setIfInBounds_toArray, List.set_cons_zero, List.set_cons_succ]
    refine wpAnyH_take (i := 9) (oi := ?_) (v := ?_) ?_ ?_ ?_ ?_ ?_ ?_ ?_ ?_
    rotate_left 2
    · simp only [List.getElem?_toArray, List.getElem?_cons_succ, List.getElem?_cons_zero]; rfl
    · kernel_rfl
    · kernel_rfl
    · kernel_rfl
    · exact fun _ _ _ h => h
    · refine Or.inl ⟨by rfl, ?_⟩
      intro w' hSw
      (try dsimp only at hSw)
      go_simp
      all_goals (with_reducible rfl)
    · assumption
    try simp only [Act.put, List.setIfInBounds_toArray, List.set_cons_zero, List.set_cons_succ]
    refine wpAnyH_take (i := 10) (oi := ?_) (v := ?_) ?_ ?_ ?_ ?_ ?_ ?_ ?_ ?_
    rotate_left 2
    · simp only [List.getElem?_toArray, List.getElem?_cons_succ, List.getElem?_cons_zero]; rfl
    · kernel_rfl
    · kernel_rfl
    · kernel_rfl
    · exact fun _ _ _ h => h
    · refine Or.inl ⟨by rfl, ?_⟩
      intro w' hSw
      (try dsimp only at hSw)
      go_simp
      all_goals (with_reducible rfl)
    · assumption
    try simp only [Act.put, List.setIfInBounds_toArray, List.set_cons_zero, List.set_cons_succ]
    refine wpAnyH_ready (rs := [11]) (by kernel_rfl) (by simp) ?_
    refine AllReadyH.cons (o := ?_) ?_ ?_ ?_
    rotate_left 1
    · simp only [List.getElem?_toArray, List.getElem?_cons_succ, List.getElem?_cons_zero]; rfl
    rotate_left 1
    · exact AllReadyH.nil
    intro K hK
    go_simp
    skip
    refine hK.out _ _ (by rw [twelve_set BK7.out]; exact (Blk.drew (BQ7.out.fr (Fr.setObj (F := fun k => k = b0) (Fr.refl _ _) rfl _) NE.out.2.2.2)).rd) (fun hHeld => ?_)
    clear hK K
    try simp only [Act.put, List.setIfInBounds_toArray, List.set_cons_zero, List.set_cons_succ]
    refine wpAnyH_take (i := 12) (oi := ?_) (v := ?_) ?_ ?_ ?_ ?_ ?_ ?_ ?_ ?_
    rotate_left 2
    · simp only [List.getElem?_toArray, List.getElem?_cons_succ, List.getElem?_cons_zero]; rfl
    · kernel_rfl
    · kernel_rfl
    · kernel_rfl
    · exact fun _ _ _ h => h
    · refine Or.inl ⟨by rfl, ?_⟩
      intro w' hSw
      (try dsimp only at hSw)
      go_simp
      all_goals (with_reducible rfl)
    · assumption
    try simp only [Act.put, List.setIfInBounds_toArray, List.set_cons_zero, List.set_cons_succ]
    refine wpAnyH_done (by kernel_rfl) ?_ _
    clear kw kr hHeld
    go_wp2
    rw [twelve_set BK7.out]
    refine bodyPost_ret (results_cellt rfl _ _ b0 _ _ (0, 0) _ rfl (setObj_at (lt_of_block BK7.out) _) Tryd.underlying36 rfl (by kernel_rfl)) rfl ?_
    first | exact ⟨rfl, below_draws (BL7.out.trans ((Fr.setObj (F := fun k => k = b0) (Fr.refl _ _) rfl _).below BL7.out.size (fun k hk => by have := HB0.out; omega))) 1⟩ | exact ⟨_, rfl, isSd_mk _ _ _ _ _ _ _ _ _ _ _ _ _ _, below_draws (BL7.out.trans ((Fr.setObj (F := fun k => k = b0) (Fr.refl _ _) rfl _).below BL7.out.size (fun k hk => by have := HB0.out; omega))) 1⟩ | exact ⟨isSd_mk _ _ _ _ _ _ _ _ _ _ _ _ _ _, below_draws (BL7.out.trans ((Fr.setObj (F := fun k => k = b0) (Fr.refl _ _) rfl _).below BL7.out.size (fun k hk => by have := HB0.out; omega))) 1⟩
end Go.Proofs.YtghhoofdbmgacaaDoor
