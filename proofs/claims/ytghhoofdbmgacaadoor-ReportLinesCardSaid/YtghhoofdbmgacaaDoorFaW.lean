/- The contracts of layer 13 (frame): Read, walked. -/
import Derived.Test.YtghhoofdbmgacaaDoorFaV
import Derived.Test.YtghhoofdbmgacaaDoorFrH
namespace Go.Proofs.YtghhoofdbmgacaaDoor
set_option linter.unusedSimpArgs false
set_option linter.unusedVariables false
open Go.ChangeShapes Go.WideShapes Go.ChangeAt Go.RowKit Go.Deep
theorem rdI_mid0 {w : World} {d off n c : Nat} {q : List Int} (h : RdI w .u8 (some ⟨d, off, none⟩) n c q) {m l : Nat} (hm : m + l ≤ n) (hmc : m < c) : RdI w .u8 (some ⟨d, off + m, none⟩) l (c - m) ((q.drop m).take l) := by
  by_cases h0 : m < n
  · exact rdI_mid h hm h0
  · have hl : l = 0 := by omega
    subst hl
    rw [List.take_zero]
    exact rdI_none (by have := h.max; omega)
abbrev zeroS : Array Value := sdC 0 0 0 0 0 0 0 0 0 0 nilV 0
set_option maxHeartbeats 8000000 in
set_option maxRecDepth 100000 in
theorem read_head (A : Option Addr) (n c : Nat) (z : List Int) (w : World) (hr : RdI w .u8 A n c z) (h : n < 4 ∨ z.getD 0 0 ≠ 168 ∨ z.getD 1 0 ≠ 1) :
    Calls Tryd.prog 13 #[.slice A n c] w fun e w' => e = .returned (.tuple #[.agg zeroS, .int .i64 0, .bool false]) ∧ Below w.heap.size w w' := by
  have hcp := hr.cap
  have hmx := hr.max
  unfold maxLen at hmx
  have HR := Lib.hid hr
  have H := Lib.hid h
  clear hr h
  go_enter Tryd.func13, Tryd.ntmps13
  go_upto_region 1 with (fail)
  obtain ⟨w1, hw1, hbk, hbl, hsz1⟩ := box_new w zeroS 36
  change Code.wp _ _ _ _ (w.alloc (.cells zeroS 36))
  rw [hw1]
  obtain ⟨b0, hb0⟩ : ∃ b0, b0 = w.heap.size := ⟨_, rfl⟩
  rw [← hb0] at hbk ⊢
  have HB0 := Lib.hid hb0
  have BK := Lib.hid hbk
  have BL := Lib.hid hbl
  have kw := hbk.wr
  have kr := hbk.rd
  clear hbk hbl hsz1 hw1 hb0
  by_cases h4 : n < 4
  · have t1 : (n : Int) < 4 := by omega
    go_wp2
    rw [twelve_set BK.out]
    refine bodyPost_ret (results_cell2 rfl _ _ b0 _ _ (0, 0) _ rfl (setObj_at (lt_of_block BK.out) _) Tryd.underlying36 rfl (by kernel_rfl)) rfl ?_
    exact ⟨rfl, BL.out.trans ((Fr.setObj (F := fun k => k = b0) (Fr.refl _ _) rfl _).below BL.out.size (fun k hk => by have := HB0.out; omega))⟩
  · have t1 : ¬ (n : Int) < 4 := by omega
    obtain ⟨d, off, rfl, hlt, hc⟩ := (HR.out.below BL.out).at_ (by omega)
    have c0 := hc 0 (by omega)
    have c1 := hc 1 (by omega)
    rw [Nat.add_zero] at c0
    obtain ⟨y0, hy0⟩ : ∃ y, y = z.getD 0 0 := ⟨_, rfl⟩
    obtain ⟨y1, hy1⟩ : ∃ y, y = z.getD 1 0 := ⟨_, rfl⟩
    have h := H.out
    rw [← hy0] at c0 h
    rw [← hy1] at c1 h
    have g0 : (0 : Int) < (n : Int) := by omega
    have g1 : (1 : Int) < (n : Int) := by omega
    clear hc hy0 hy1 hlt H
    by_cases h0 : y0 = 168
    · have t2 : (y0 != 168) = false := by simpa using h0
      have t3 : (y1 != 1) = true := by simp; omega
      clear h h0
      go_wp2
      rw [twelve_set BK.out]
      refine bodyPost_ret (results_cell2 rfl _ _ b0 _ _ (0, 0) _ rfl (setObj_at (lt_of_block BK.out) _) Tryd.underlying36 rfl (by kernel_rfl)) rfl ?_
      exact ⟨rfl, BL.out.trans ((Fr.setObj (F := fun k => k = b0) (Fr.refl _ _) rfl _).below BL.out.size (fun k hk => by have := HB0.out; omega))⟩
    · have t2 : (y0 != 168) = true := by simpa using h0
      clear h h0
      go_wp2
      rw [twelve_set BK.out]
      refine bodyPost_ret (results_cell2 rfl _ _ b0 _ _ (0, 0) _ rfl (setObj_at (lt_of_block BK.out) _) Tryd.underlying36 rfl (by kernel_rfl)) rfl ?_
      exact ⟨rfl, BL.out.trans ((Fr.setObj (F := fun k => k = b0) (Fr.refl _ _) rfl _).below BL.out.size (fun k hk => by have := HB0.out; omega))⟩
set_option maxHeartbeats 16000000 in
set_option maxRecDepth 100000 in
theorem read_any (A : Option Addr) (n c : Nat) (z : List Int) (w : World) (hn : n ≤ 100000) (hr : RdI w .u8 A n c z) :
    (∀ s m, readZ z = some (s, m) → Calls Tryd.prog 13 #[.slice A n c] w fun e w' => ∃ LA LN LC, e = .returned (.tuple #[.agg (sdV s (.slice LA LN LC)), .int .i64 (m : Int), .bool true]) ∧ (∃ ls : List CV, zs ls = s.list ∧ w'.ownsRow w.heap.size 29 3 (.slice LA LN LC) ls.length (cells3 ls)) ∧ Below w.heap.size w w') ∧
    (readZ z = none → Calls Tryd.prog 13 #[.slice A n c] w fun e w' => e = .returned (.tuple #[.agg zeroS, .int .i64 0, .bool false]) ∧ Below w.heap.size w w') := by
  have hl := hr.len
  unfold readZ
  rw [hl]
  by_cases c1 : n < 4 ∨ z.getD 0 0 ≠ 168 ∨ z.getD 1 0 ≠ 1
  · rw [if_pos c1]
    exact ⟨(fun s m h => by cases h), fun _ => read_head A n c z w hr c1⟩
  rw [if_neg c1]
  have hby := rdI_hd hr
  have k2 := byt_getD hby 2
  have k3 := byt_getD hby 3
  have hcp := hr.cap
  have hmx := hr.max
  unfold maxLen at hmx
  obtain ⟨d, off, rfl, hlt, hc⟩ := hr.at_ (by omega)
  have HC := Lib.hid (fun (wx : World) (hx : Below w.heap.size w wx) (i : Nat) (hi : i < n) => (hx.cell (p := ⟨d, off + i, none⟩) hlt).trans (hc i hi))
  obtain ⟨y2, hy2⟩ : ∃ y, y = z.getD 2 0 := ⟨_, rfl⟩
  obtain ⟨y3, hy3⟩ : ∃ y, y = z.getD 3 0 := ⟨_, rfl⟩
  have e0 : z.getD 0 0 = 168 := by omega
  have e1 : z.getD 1 0 = 1 := by omega
  rw [← hy2] at k2 ⊢
  rw [← hy3] at k3 ⊢
  obtain ⟨m, hm⟩ : ∃ m : Nat, y2 * 256 + y3 = (m : Int) := ⟨(y2 * 256 + y3).toNat, by omega⟩
  rw [hm, Int.toNat_natCast]
  obtain ⟨M, hM⟩ : ∃ M : Nat, M = 4 + m := ⟨_, rfl⟩
  rw [← hM]
  have KC := Lib.hid (fun (wx : World) (hx : Below w.heap.size w wx) => show wx.cell? ⟨d, off, none⟩ = some (.int .u8 168) ∧ wx.cell? ⟨d, off + 1, none⟩ = some (.int .u8 1) ∧ wx.cell? ⟨d, off + 2, none⟩ = some (.int .u8 y2) ∧ wx.cell? ⟨d, off + 3, none⟩ = some (.int .u8 y3) from by
    have a0 := HC.out wx hx 0 (by omega)
    have a1 := HC.out wx hx 1 (by omega)
    have a2 := HC.out wx hx 2 (by omega)
    have a3 := HC.out wx hx 3 (by omega)
    rw [e0, Nat.add_zero] at a0
    rw [e1] at a1
    rw [← hy2] at a2
    rw [← hy3] at a3
    exact ⟨a0, a1, a2, a3⟩)
  have HR := Lib.hid hr
  have HHM := Lib.hid hM
  have HHN := Lib.hid hn
  have t1 : ¬ (n : Int) < 4 := by omega
  have g0 : (0 : Int) < (n : Int) := by omega
  have g1 : (1 : Int) < (n : Int) := by omega
  have g2 : (2 : Int) < (n : Int) := by omega
  have g3 : (3 : Int) < (n : Int) := by omega
  have ea : IntKind.i64.wrap (y2 * 256) = y2 * 256 := by rw [IntKind.wrap_i64]; omega
  have eb : IntKind.i64.wrap (4 + y2 * 256) = 4 + y2 * 256 := by rw [IntKind.wrap_i64]; omega
  have ec : IntKind.i64.wrap (4 + y2 * 256 + y3) = (M : Int) := by rw [IntKind.wrap_i64]; omega
  have ed : 4 + y2 * 256 + y3 = (M : Int) := by omega
  have ew2 : IntKind.i64.wrap y2 = y2 := by rw [IntKind.wrap_i64]; omega
  have ew3 : IntKind.i64.wrap y3 = y3 := by rw [IntKind.wrap_i64]; omega
  have ep : (2 : Int) ^ 8 = 256 := rfl
  clear hc hr hlt hm hM hy2 hy3 e0 e1 c1 hl hn hby
  by_cases hs : n < M
  · rw [if_pos hs]
    refine ⟨(fun s m h => by cases h), fun _ => ?_⟩
    have t4 : (n : Int) < (M : Int) := by omega
    go_enter Tryd.func13, Tryd.ntmps13
    go_upto_region 1 with (fail)
    obtain ⟨w1, hw1, hbk, hbl, hsz1⟩ := box_new w zeroS 36
    change Code.wp _ _ _ _ (w.alloc (.cells zeroS 36))
    rw [hw1]
    obtain ⟨b0, hb0⟩ : ∃ b0, b0 = w.heap.size := ⟨_, rfl⟩
    rw [← hb0] at hbk ⊢
    have HB0 := Lib.hid hb0
    have BK := Lib.hid hbk
    have BL := Lib.hid hbl
    obtain ⟨a0, a1, a2, a3⟩ := KC.out w1 hbl
    clear hbk hbl hsz1 hw1 hb0
    go_upto_region 3 with (fail)
    go_quiet (fail)
    have BK2 := Lib.hid (show Blk (w1.drewN nq) b0 36 zeroS from BK.out.keep (below_draws (Below.refl _ _) nq))
    have BL2 := Lib.hid (show Below w.heap.size w (w1.drewN nq) from below_draws BL.out nq)
    obtain ⟨w2, hw2⟩ : ∃ w2, w2 = w1.drewN nq := ⟨_, rfl⟩
    rw [← hw2] at BK2 BL2 ⊢
    have kw := BK2.out.wr
    have kr := BK2.out.rd
    clear a0 a1 a2 a3 hw2
    go_wp2
    rw [twelve_set BK2.out]
    refine bodyPost_ret (results_cell2 rfl _ _ b0 _ _ (0, 0) _ rfl (setObj_at (lt_of_block BK2.out) _) Tryd.underlying36 rfl (by kernel_rfl)) rfl ?_
    exact ⟨rfl, BL2.out.trans ((Fr.setObj (F := fun k => k = b0) (Fr.refl _ _) rfl _).below BL2.out.size (fun k hk => by have := HB0.out; omega))⟩
  · rw [if_neg hs]
    have t4 : ¬ (n : Int) < (M : Int) := by omega
    have g4 : (4 : Int) ≤ (M : Int) := by omega
    have g5 : (M : Int) ≤ (c : Int) := by omega
    have hMm : M - 4 = m := by have := HHM.out; omega
    have hmN : m ≤ 100000 := by have := HHM.out; have := HHN.out; omega
    have hmn : 4 + m ≤ n := by have := HHM.out; omega
    have CS := Lib.hid (fun (A' : Option Addr) (c' : Nat) (wx : World) (h : RdI wx .u8 A' m c' ((z.drop 4).take m)) => said_any A' m c' ((z.drop 4).take m) wx h hmN)
    by_cases hc4 : c = 4
    · have hm0 : m = 0 := by omega
      subst hm0
      subst hc4
      have hM4 : M = 4 := by have := HHM.out; omega
      have HR4 := Lib.hid (fun (wx : World) (_ : Below w.heap.size w wx) => show RdI wx .u8 (some ⟨d, off, none⟩) 0 0 ((z.drop 4).take 0) from by rw [List.take_zero]; exact rdI_none (by unfold maxLen; omega))
      subst hM4
      clear hmN hmn
      refine ⟨fun s M' hsr => ?_, fun hsr => ?_⟩
      · cases hsz : saidZ ((z.drop 4).take 0) with
        | none => rw [hsz] at hsr; cases hsr
        | some s' =>
          rw [hsz] at hsr
          simp only [Option.map_some, Option.some.injEq, Prod.mk.injEq] at hsr
          obtain ⟨rfl, rfl⟩ := hsr
          obtain ⟨op, ru, v, re, rt, a, dd, b, cc, wt, l, er⟩ := s'
          have CY := Lib.hid (fun (wx : World) (h : RdI wx .u8 (some ⟨d, off, none⟩) 0 0 ((z.drop 4).take 0)) => show Calls Tryd.prog 19 #[.slice (some ⟨d, off, none⟩) 0 0] wx (fun e w' => ∃ LA LN LC, e = .returned (.tuple #[.agg (sdC op ru v re rt a dd b cc wt (.slice LA LN LC) er), .bool true]) ∧ (∃ ls : List CV, zs ls = l ∧ w'.ownsRow wx.heap.size 29 3 (.slice LA LN LC) ls.length (cells3 ls)) ∧ Below wx.heap.size wx w') from (CS.out _ _ wx h).1 _ hsz)
          clear CS hsz
          go_enter Tryd.func13, Tryd.ntmps13
          go_upto_region 1 with (fail)
          obtain ⟨w1, hw1, hbk, hbl, hsz1⟩ := box_new w zeroS 36
          change Code.wp _ _ _ _ (w.alloc (.cells zeroS 36))
          rw [hw1]
          obtain ⟨b0, hb0⟩ : ∃ b0, b0 = w.heap.size := ⟨_, rfl⟩
          rw [← hb0] at hbk ⊢
          have HB0 := Lib.hid hb0
          have BK := Lib.hid hbk
          have BL := Lib.hid hbl
          obtain ⟨a0, a1, a2, a3⟩ := KC.out w1 hbl
          clear hbk hbl hsz1 hw1 hb0
          go_upto_region 3 with (fail)
          go_quiet (fail)
          have BK2 := Lib.hid (show Blk (w1.drewN nq) b0 36 zeroS from BK.out.keep (below_draws (Below.refl _ _) nq))
          have BL2 := Lib.hid (show Below w.heap.size w (w1.drewN nq) from below_draws BL.out nq)
          obtain ⟨w2, hw2⟩ : ∃ w2, w2 = w1.drewN nq := ⟨_, rfl⟩
          rw [← hw2] at BK2 BL2 ⊢
          have R2 := Lib.hid (HR4.out w2 BL2.out)
          clear a0 a1 a2 a3 hw2
          go_upto_region 7 with (go_at_call 19; ((with_reducible refine (CY.out _ R2.out).mono ?_); rintro e w3 ⟨LA, LN, LC, rfl, hls, b3⟩; have HLS := Lib.hid hls; have BK3 := Lib.hid (BK2.out.keep b3); have BL3 := Lib.hid (BL2.out.trans (b3.mono BL2.out.size)); have B3 := Lib.hid b3; clear hls b3))
          obtain ⟨w4, hw4, hbk, hbl, hsz4⟩ := box_new w3 (sdC op ru v re rt a dd b cc wt (.slice LA LN LC) er) 36
          change Code.wp _ _ _ _ (w3.alloc (.cells (sdC op ru v re rt a dd b cc wt (.slice LA LN LC) er) 36))
          rw [hw4]
          have kq := hbk.rd
          have BK4 := Lib.hid (BK3.out.keep hbl)
          have kw := BK4.out.wr
          have kr := BK4.out.rd
          have BL4 := Lib.hid (BL3.out.trans (hbl.mono BL3.out.size))
          have HLS4 := Lib.hid (show ∃ ls : List CV, zs ls = l ∧ (setObj w4 b0 (.cells (sdC op ru v re rt a dd b cc wt (.slice LA LN LC) er) 36 (0, 0))).ownsRow w.heap.size 29 3 (.slice LA LN LC) ls.length (cells3 ls) from by
            obtain ⟨ls, h1, h2⟩ := HLS.out
            have g1 := lt_of_block BK2.out
            have h3 := owns_below h2 hbl
            have h5 := owns_fr h3 (Fr.setObj (F := fun k => k = b0) (Fr.refl _ _) rfl (.cells (sdC op ru v re rt a dd b cc wt (.slice LA LN LC) er) 36 (0, 0))) (fun g hg => by have h4 := (owns_lt h2 g hg).1; omega)
            refine ⟨ls, h1, h5.1, ?_⟩
            rcases h5.2 with h0 | ⟨g, cap, cur, hv, hb, hr⟩
            · exact .inl h0
            · exact .inr ⟨g, cap, cur, hv, by have := BL2.out.size; omega, hr⟩)
          clear hw4 hbk hbl hsz4
          go_wp2
          rw [twelve_set BK4.out]
          refine bodyPost_ret (results_cell2 rfl _ _ b0 _ _ (0, 0) _ rfl (setObj_at (lt_of_block BK4.out) _) Tryd.underlying36 rfl (by kernel_rfl)) rfl ?_
          exact ⟨LA, LN, LC, rfl, HLS4.out, BL4.out.trans ((Fr.setObj (F := fun k => k = b0) (Fr.refl _ _) rfl _).below BL4.out.size (fun k hk => by have := HB0.out; omega))⟩
      · have hsn : saidZ ((z.drop 4).take 0) = none := by
          cases hsz : saidZ ((z.drop 4).take 0) with
          | none => rfl
          | some s' => rw [hsz] at hsr; cases hsr
        have CY := Lib.hid (fun (wx : World) (h : RdI wx .u8 (some ⟨d, off, none⟩) 0 0 ((z.drop 4).take 0)) => show Calls Tryd.prog 19 #[.slice (some ⟨d, off, none⟩) 0 0] wx (fun e w' => ∃ sv, e = .returned (.tuple #[sv, .bool false]) ∧ isSd sv ∧ Below wx.heap.size wx w') from (CS.out _ _ wx h).2 hsn)
        clear CS hsr hsn
        go_enter Tryd.func13, Tryd.ntmps13
        go_upto_region 1 with (fail)
        obtain ⟨w1, hw1, hbk, hbl, hsz1⟩ := box_new w zeroS 36
        change Code.wp _ _ _ _ (w.alloc (.cells zeroS 36))
        rw [hw1]
        obtain ⟨b0, hb0⟩ : ∃ b0, b0 = w.heap.size := ⟨_, rfl⟩
        rw [← hb0] at hbk ⊢
        have HB0 := Lib.hid hb0
        have BK := Lib.hid hbk
        have BL := Lib.hid hbl
        obtain ⟨a0, a1, a2, a3⟩ := KC.out w1 hbl
        clear hbk hbl hsz1 hw1 hb0
        go_upto_region 3 with (fail)
        go_quiet (fail)
        have BK2 := Lib.hid (show Blk (w1.drewN nq) b0 36 zeroS from BK.out.keep (below_draws (Below.refl _ _) nq))
        have BL2 := Lib.hid (show Below w.heap.size w (w1.drewN nq) from below_draws BL.out nq)
        obtain ⟨w2, hw2⟩ : ∃ w2, w2 = w1.drewN nq := ⟨_, rfl⟩
        rw [← hw2] at BK2 BL2 ⊢
        have R2 := Lib.hid (HR4.out w2 BL2.out)
        clear a0 a1 a2 a3 hw2
        go_upto_region 7 with (go_at_call 19; ((with_reducible refine (CY.out _ R2.out).mono ?_); rintro e w3 ⟨sv, rfl, ⟨op, ru, v, re, rt, a, dd, b, cc, wt, LA, LN, LC, er, rfl⟩, b3⟩; have BK3 := Lib.hid (BK2.out.keep b3); have BL3 := Lib.hid (BL2.out.trans (b3.mono BL2.out.size)); clear b3))
        obtain ⟨w4, hw4, hbk, hbl, hsz4⟩ := box_new w3 (sdC op ru v re rt a dd b cc wt (.slice LA LN LC) er) 36
        change Code.wp _ _ _ _ (w3.alloc (.cells (sdC op ru v re rt a dd b cc wt (.slice LA LN LC) er) 36))
        rw [hw4]
        have BK4 := Lib.hid (BK3.out.keep hbl)
        have kw := BK4.out.wr
        have kr := BK4.out.rd
        have BL4 := Lib.hid (BL3.out.trans (hbl.mono BL3.out.size))
        clear hw4 hbk hbl hsz4
        go_wp2
        rw [twelve_set BK4.out]
        refine bodyPost_ret (results_cell2 rfl _ _ b0 _ _ (0, 0) _ rfl (setObj_at (lt_of_block BK4.out) _) Tryd.underlying36 rfl (by kernel_rfl)) rfl ?_
        exact ⟨rfl, BL4.out.trans ((Fr.setObj (F := fun k => k = b0) (Fr.refl _ _) rfl _).below BL4.out.size (fun k hk => by have := HB0.out; omega))⟩
    · have HR4 := Lib.hid (fun (wx : World) (hx : Below w.heap.size w wx) => show RdI wx .u8 (some ⟨d, off + 4, none⟩) m (c - 4) ((z.drop 4).take m) from rdI_mid0 (HR.out.below hx) hmn (by omega))
      clear hmN hmn
      refine ⟨fun s M' hsr => ?_, fun hsr => ?_⟩
      · cases hsz : saidZ ((z.drop 4).take m) with
        | none => rw [hsz] at hsr; cases hsr
        | some s' =>
          rw [hsz] at hsr
          simp only [Option.map_some, Option.some.injEq, Prod.mk.injEq] at hsr
          obtain ⟨rfl, rfl⟩ := hsr
          obtain ⟨op, ru, v, re, rt, a, dd, b, cc, wt, l, er⟩ := s'
          have CY := Lib.hid (fun (wx : World) (h : RdI wx .u8 (some ⟨d, off + 4, none⟩) m (c - 4) ((z.drop 4).take m)) => show Calls Tryd.prog 19 #[.slice (some ⟨d, off + 4, none⟩) m (c - 4)] wx (fun e w' => ∃ LA LN LC, e = .returned (.tuple #[.agg (sdC op ru v re rt a dd b cc wt (.slice LA LN LC) er), .bool true]) ∧ (∃ ls : List CV, zs ls = l ∧ w'.ownsRow wx.heap.size 29 3 (.slice LA LN LC) ls.length (cells3 ls)) ∧ Below wx.heap.size wx w') from (CS.out _ _ wx h).1 _ hsz)
          clear CS hsz
          go_enter Tryd.func13, Tryd.ntmps13
          go_upto_region 1 with (fail)
          obtain ⟨w1, hw1, hbk, hbl, hsz1⟩ := box_new w zeroS 36
          change Code.wp _ _ _ _ (w.alloc (.cells zeroS 36))
          rw [hw1]
          obtain ⟨b0, hb0⟩ : ∃ b0, b0 = w.heap.size := ⟨_, rfl⟩
          rw [← hb0] at hbk ⊢
          have HB0 := Lib.hid hb0
          have BK := Lib.hid hbk
          have BL := Lib.hid hbl
          obtain ⟨a0, a1, a2, a3⟩ := KC.out w1 hbl
          clear hbk hbl hsz1 hw1 hb0
          go_upto_region 3 with (fail)
          go_quiet (fail)
          have BK2 := Lib.hid (show Blk (w1.drewN nq) b0 36 zeroS from BK.out.keep (below_draws (Below.refl _ _) nq))
          have BL2 := Lib.hid (show Below w.heap.size w (w1.drewN nq) from below_draws BL.out nq)
          obtain ⟨w2, hw2⟩ : ∃ w2, w2 = w1.drewN nq := ⟨_, rfl⟩
          rw [← hw2] at BK2 BL2 ⊢
          have R2 := Lib.hid (HR4.out w2 BL2.out)
          clear a0 a1 a2 a3 hw2
          go_upto_region 7 with (go_at_call 19; ((with_reducible refine (CY.out _ R2.out).mono ?_); rintro e w3 ⟨LA, LN, LC, rfl, hls, b3⟩; have HLS := Lib.hid hls; have BK3 := Lib.hid (BK2.out.keep b3); have BL3 := Lib.hid (BL2.out.trans (b3.mono BL2.out.size)); have B3 := Lib.hid b3; clear hls b3))
          obtain ⟨w4, hw4, hbk, hbl, hsz4⟩ := box_new w3 (sdC op ru v re rt a dd b cc wt (.slice LA LN LC) er) 36
          change Code.wp _ _ _ _ (w3.alloc (.cells (sdC op ru v re rt a dd b cc wt (.slice LA LN LC) er) 36))
          rw [hw4]
          have kq := hbk.rd
          have BK4 := Lib.hid (BK3.out.keep hbl)
          have kw := BK4.out.wr
          have kr := BK4.out.rd
          have BL4 := Lib.hid (BL3.out.trans (hbl.mono BL3.out.size))
          have HLS4 := Lib.hid (show ∃ ls : List CV, zs ls = l ∧ (setObj w4 b0 (.cells (sdC op ru v re rt a dd b cc wt (.slice LA LN LC) er) 36 (0, 0))).ownsRow w.heap.size 29 3 (.slice LA LN LC) ls.length (cells3 ls) from by
            obtain ⟨ls, h1, h2⟩ := HLS.out
            have g1 := lt_of_block BK2.out
            have h3 := owns_below h2 hbl
            have h5 := owns_fr h3 (Fr.setObj (F := fun k => k = b0) (Fr.refl _ _) rfl (.cells (sdC op ru v re rt a dd b cc wt (.slice LA LN LC) er) 36 (0, 0))) (fun g hg => by have h4 := (owns_lt h2 g hg).1; omega)
            refine ⟨ls, h1, h5.1, ?_⟩
            rcases h5.2 with h0 | ⟨g, cap, cur, hv, hb, hr⟩
            · exact .inl h0
            · exact .inr ⟨g, cap, cur, hv, by have := BL2.out.size; omega, hr⟩)
          clear hw4 hbk hbl hsz4
          go_wp2
          rw [twelve_set BK4.out]
          refine bodyPost_ret (results_cell2 rfl _ _ b0 _ _ (0, 0) _ rfl (setObj_at (lt_of_block BK4.out) _) Tryd.underlying36 rfl (by kernel_rfl)) rfl ?_
          exact ⟨LA, LN, LC, rfl, HLS4.out, BL4.out.trans ((Fr.setObj (F := fun k => k = b0) (Fr.refl _ _) rfl _).below BL4.out.size (fun k hk => by have := HB0.out; omega))⟩
      · have hsn : saidZ ((z.drop 4).take m) = none := by
          cases hsz : saidZ ((z.drop 4).take m) with
          | none => rfl
          | some s' => rw [hsz] at hsr; cases hsr
        have CY := Lib.hid (fun (wx : World) (h : RdI wx .u8 (some ⟨d, off + 4, none⟩) m (c - 4) ((z.drop 4).take m)) => show Calls Tryd.prog 19 #[.slice (some ⟨d, off + 4, none⟩) m (c - 4)] wx (fun e w' => ∃ sv, e = .returned (.tuple #[sv, .bool false]) ∧ isSd sv ∧ Below wx.heap.size wx w') from (CS.out _ _ wx h).2 hsn)
        clear CS hsr hsn
        go_enter Tryd.func13, Tryd.ntmps13
        go_upto_region 1 with (fail)
        obtain ⟨w1, hw1, hbk, hbl, hsz1⟩ := box_new w zeroS 36
        change Code.wp _ _ _ _ (w.alloc (.cells zeroS 36))
        rw [hw1]
        obtain ⟨b0, hb0⟩ : ∃ b0, b0 = w.heap.size := ⟨_, rfl⟩
        rw [← hb0] at hbk ⊢
        have HB0 := Lib.hid hb0
        have BK := Lib.hid hbk
        have BL := Lib.hid hbl
        obtain ⟨a0, a1, a2, a3⟩ := KC.out w1 hbl
        clear hbk hbl hsz1 hw1 hb0
        go_upto_region 3 with (fail)
        go_quiet (fail)
        have BK2 := Lib.hid (show Blk (w1.drewN nq) b0 36 zeroS from BK.out.keep (below_draws (Below.refl _ _) nq))
        have BL2 := Lib.hid (show Below w.heap.size w (w1.drewN nq) from below_draws BL.out nq)
        obtain ⟨w2, hw2⟩ : ∃ w2, w2 = w1.drewN nq := ⟨_, rfl⟩
        rw [← hw2] at BK2 BL2 ⊢
        have R2 := Lib.hid (HR4.out w2 BL2.out)
        clear a0 a1 a2 a3 hw2
        go_upto_region 7 with (go_at_call 19; ((with_reducible refine (CY.out _ R2.out).mono ?_); rintro e w3 ⟨sv, rfl, ⟨op, ru, v, re, rt, a, dd, b, cc, wt, LA, LN, LC, er, rfl⟩, b3⟩; have BK3 := Lib.hid (BK2.out.keep b3); have BL3 := Lib.hid (BL2.out.trans (b3.mono BL2.out.size)); clear b3))
        obtain ⟨w4, hw4, hbk, hbl, hsz4⟩ := box_new w3 (sdC op ru v re rt a dd b cc wt (.slice LA LN LC) er) 36
        change Code.wp _ _ _ _ (w3.alloc (.cells (sdC op ru v re rt a dd b cc wt (.slice LA LN LC) er) 36))
        rw [hw4]
        have BK4 := Lib.hid (BK3.out.keep hbl)
        have kw := BK4.out.wr
        have kr := BK4.out.rd
        have BL4 := Lib.hid (BL3.out.trans (hbl.mono BL3.out.size))
        clear hw4 hbk hbl hsz4
        go_wp2
        rw [twelve_set BK4.out]
        refine bodyPost_ret (results_cell2 rfl _ _ b0 _ _ (0, 0) _ rfl (setObj_at (lt_of_block BK4.out) _) Tryd.underlying36 rfl (by kernel_rfl)) rfl ?_
        exact ⟨rfl, BL4.out.trans ((Fr.setObj (F := fun k => k = b0) (Fr.refl _ _) rfl _).below BL4.out.size (fun k hk => by have := HB0.out; omega))⟩
end Go.Proofs.YtghhoofdbmgacaaDoor
