/- The contracts of layer 17 (config): a rule read. -/
import Derived.Test.YtfpknklnbgmflaaCfM
namespace Go.Proofs.Ytfpknklnbgmflaa
set_option linter.unusedSimpArgs false
set_option linter.unusedVariables false
open Go.ChangeShapes Go.WideShapes Go.ChangeAt Go.RowKit Go.Deep
theorem results_cellt {P : Program} {fn : Func} {p u1 : Tmp} {ty : TypeId} (h : fn.results = #[.cell p ty, .tmp u1]) (tmps : Array Value) (w : World) (g : Nat) (t : TypeId) (cs : Array Value) (fr : Nat × Nat) (d : TypeDesc)
    (hp : tmps.getD p undef = .pointer (some ⟨g, 0, none⟩)) (hg : w.heap[g]? = some (.cells cs t fr))
    (hu : P.underlying ty = some d) (hd : (match d with | .struct _ | .array _ _ => true | _ => false) = true) (hi : (P.info? ty).map (·.size) = some cs.size) :
    (results fn tmps).run P w = .ok (.tuple #[.agg cs, tmps.getD u1 undef]) w := by
  have hp' : tmps[p]?.getD undef = .pointer (some ⟨g, 0, none⟩) := by simpa using hp
  simp [results, h, hp', asAddr, run_loadVar_row w g t ty cs fr d hg hu hd hi]
theorem nine_set {w : World} {b : Nat} {t : TypeId} {a0 a1 a2 a3 a4 a5 a6 a7 a8 v0 v1 v2 v3 v4 v5 v6 v7 v8 : Value} (h : Blk w b t #[a0, a1, a2, a3, a4, a5, a6, a7, a8]) :
    (((((((((w.setCell ⟨b, 0, none⟩ v0).setCell ⟨b, 1, none⟩ v1).setCell ⟨b, 2, none⟩ v2).setCell ⟨b, 3, none⟩ v3).setCell ⟨b, 4, none⟩ v4).setCell ⟨b, 5, none⟩ v5).setCell ⟨b, 6, none⟩ v6).setCell ⟨b, 7, none⟩ v7).setCell ⟨b, 8, none⟩ v8) = setObj w b (.cells #[v0, v1, v2, v3, v4, v5, v6, v7, v8] t (0, 0)) := by
  have hl := lt_of_block h
  rw [setCell_obj h]
  simp only [setCell_in hl, List.setIfInBounds_toArray, List.set_cons_zero, List.set_cons_succ]
theorem conf_set {w : World} {b : Nat} {t : TypeId} {a0 a1 a2 a3 v0 v1 v2 v3 : Value} (h : Blk w b t #[a0, a1, a2, a3]) :
    ((((w.setCell ⟨b, 0, none⟩ v0).setCell ⟨b, 1, none⟩ v1).setCell ⟨b, 2, none⟩ v2).setCell ⟨b, 3, none⟩ v3) = setObj w b (.cells #[v0, v1, v2, v3] t (0, 0)) := by
  have hl := lt_of_block h
  rw [setCell_obj h]
  simp only [setCell_in hl, List.setIfInBounds_toArray, List.set_cons_zero, List.set_cons_succ]
/-- the rule that bytes begin with. -/
def ruZof (z : List Int) : RuZ := ⟨num8 z, num8 (z.drop 8), num8 (z.drop 16), num8 (z.drop 24), num8 (z.drop 32), num8 (z.drop 40), num8 (z.drop 48), num8 (z.drop 56), num8 (z.drop 64) == 1⟩
def ruOk (z : List Int) : Bool := num8 (z.drop 64) == 0 || num8 (z.drop 64) == 1
set_option maxHeartbeats 8000000 in
set_option maxRecDepth 100000 in
theorem crule_any (A : Option Addr) (n c : Nat) (z : List Int) (hn : 72 ≤ n) (w : World) (hr : RdI w .u8 A n c z) :
    Calls Try.prog 32 #[.slice A n c] w fun e w' => e = .returned (.tuple #[.agg (ruZof z).c, .bool (ruOk z)]) ∧ Below w.heap.size w w' := by
  have HR := Lib.hid hr
  obtain ⟨x0, hx0⟩ : ∃ x, x = num8 z := ⟨_, rfl⟩
  obtain ⟨x1, hx1⟩ : ∃ x, x = num8 (z.drop 8) := ⟨_, rfl⟩
  obtain ⟨x2, hx2⟩ : ∃ x, x = num8 (z.drop 16) := ⟨_, rfl⟩
  obtain ⟨x3, hx3⟩ : ∃ x, x = num8 (z.drop 24) := ⟨_, rfl⟩
  obtain ⟨x4, hx4⟩ : ∃ x, x = num8 (z.drop 32) := ⟨_, rfl⟩
  obtain ⟨x5, hx5⟩ : ∃ x, x = num8 (z.drop 40) := ⟨_, rfl⟩
  obtain ⟨x6, hx6⟩ : ∃ x, x = num8 (z.drop 48) := ⟨_, rfl⟩
  obtain ⟨x7, hx7⟩ : ∃ x, x = num8 (z.drop 56) := ⟨_, rfl⟩
  obtain ⟨x8, hx8⟩ : ∃ x, x = num8 (z.drop 64) := ⟨_, rfl⟩
  have CN0 := Lib.hid (fun (wx : World) (hx : Below w.heap.size w wx) => show Calls Try.prog 31 #[.slice A n c, .int .i64 0] wx (fun e w' => e = .returned (.int .i64 x0) ∧ Below wx.heap.size wx w') from by rw [hx0]; exact cnum_any A n c z 0 0 rfl (by omega) wx (HR.out.below hx))
  have CN1 := Lib.hid (fun (wx : World) (hx : Below w.heap.size w wx) => show Calls Try.prog 31 #[.slice A n c, .int .i64 1] wx (fun e w' => e = .returned (.int .i64 x1) ∧ Below wx.heap.size wx w') from by rw [hx1]; exact cnum_any A n c z 1 1 rfl (by omega) wx (HR.out.below hx))
  have CN2 := Lib.hid (fun (wx : World) (hx : Below w.heap.size w wx) => show Calls Try.prog 31 #[.slice A n c, .int .i64 2] wx (fun e w' => e = .returned (.int .i64 x2) ∧ Below wx.heap.size wx w') from by rw [hx2]; exact cnum_any A n c z 2 2 rfl (by omega) wx (HR.out.below hx))
  have CN3 := Lib.hid (fun (wx : World) (hx : Below w.heap.size w wx) => show Calls Try.prog 31 #[.slice A n c, .int .i64 3] wx (fun e w' => e = .returned (.int .i64 x3) ∧ Below wx.heap.size wx w') from by rw [hx3]; exact cnum_any A n c z 3 3 rfl (by omega) wx (HR.out.below hx))
  have CN4 := Lib.hid (fun (wx : World) (hx : Below w.heap.size w wx) => show Calls Try.prog 31 #[.slice A n c, .int .i64 4] wx (fun e w' => e = .returned (.int .i64 x4) ∧ Below wx.heap.size wx w') from by rw [hx4]; exact cnum_any A n c z 4 4 rfl (by omega) wx (HR.out.below hx))
  have CN5 := Lib.hid (fun (wx : World) (hx : Below w.heap.size w wx) => show Calls Try.prog 31 #[.slice A n c, .int .i64 5] wx (fun e w' => e = .returned (.int .i64 x5) ∧ Below wx.heap.size wx w') from by rw [hx5]; exact cnum_any A n c z 5 5 rfl (by omega) wx (HR.out.below hx))
  have CN6 := Lib.hid (fun (wx : World) (hx : Below w.heap.size w wx) => show Calls Try.prog 31 #[.slice A n c, .int .i64 6] wx (fun e w' => e = .returned (.int .i64 x6) ∧ Below wx.heap.size wx w') from by rw [hx6]; exact cnum_any A n c z 6 6 rfl (by omega) wx (HR.out.below hx))
  have CN7 := Lib.hid (fun (wx : World) (hx : Below w.heap.size w wx) => show Calls Try.prog 31 #[.slice A n c, .int .i64 7] wx (fun e w' => e = .returned (.int .i64 x7) ∧ Below wx.heap.size wx w') from by rw [hx7]; exact cnum_any A n c z 7 7 rfl (by omega) wx (HR.out.below hx))
  have CN8 := Lib.hid (fun (wx : World) (hx : Below w.heap.size w wx) => show Calls Try.prog 31 #[.slice A n c, .int .i64 8] wx (fun e w' => e = .returned (.int .i64 x8) ∧ Below wx.heap.size wx w') from by rw [hx8]; exact cnum_any A n c z 8 8 rfl (by omega) wx (HR.out.below hx))
  have HE := Lib.hid (show (.tuple #[.agg (ruZof z).c, .bool (ruOk z)] : Value) = .tuple #[.agg (ruC x0 x1 x2 x3 x4 x5 x6 x7 (x8 == 1)), .bool (x8 == 0 || x8 == 1)] from by rw [hx0, hx1, hx2, hx3, hx4, hx5, hx6, hx7, hx8]; rfl)
  have BOX := Lib.hid (box_new w (ruC 0 0 0 0 0 0 0 0 false) 23)
  clear hr hn hx0 hx1 hx2 hx3 hx4 hx5 hx6 hx7 hx8
  go_enter Try.func32, Try.ntmps32
  go_upto_region 1 with (fail)
  obtain ⟨w1, hw1, hbk, hbl, hsz1⟩ := BOX.out
  change Code.wp _ _ _ _ (w.alloc (.cells (ruC 0 0 0 0 0 0 0 0 false) 23))
  rw [hw1]
  obtain ⟨b0, hb0⟩ : ∃ b0, b0 = w.heap.size := ⟨_, rfl⟩
  rw [← hb0] at hbk ⊢
  have HB0 := Lib.hid hb0
  have KB := Lib.hid hbk
  have LB := Lib.hid hbl
  clear hbk hbl hsz1 hw1 hb0
  go_upto_region 2 with (go_at_call 31; ((with_reducible refine (CN8.out _ LB.out).mono ?_); rintro e w2 ⟨rfl, b2⟩; have K8 := Lib.hid (KB.out.keep b2); have L8 := Lib.hid (LB.out.trans (b2.mono LB.out.size)); clear b2))
  rcases (show (x8 == 1) = true ∧ (x8 == 0) = false ∨ (x8 == 1) = false ∧ (x8 == 0) = true ∨ (x8 == 1) = false ∧ (x8 == 0) = false from by
    by_cases h1 : x8 = 1
    · subst h1; exact .inl ⟨rfl, rfl⟩
    · by_cases h0 : x8 = 0
      · subst h0; exact .inr (.inl ⟨rfl, rfl⟩)
      · exact .inr (.inr ⟨by simpa using h1, by simpa using h0⟩)) with ⟨t1, t0⟩ | ⟨t1, t0⟩ | ⟨t1, t0⟩
  all_goals
    rw [t1, t0] at HE
    simp only [Bool.or_true, Bool.or_false, Bool.false_or, Bool.true_or] at HE
    go_wp2_with (first
      | (go_at_call 31; ((with_reducible refine (CN0.out _ L8.out).mono ?_); rintro e w3 ⟨rfl, b3⟩; have K0 := Lib.hid (K8.out.keep b3); have L0 := Lib.hid (L8.out.trans (b3.mono L8.out.size)); clear b3))
      | (go_at_call 31; ((with_reducible refine (CN1.out _ L0.out).mono ?_); rintro e w3 ⟨rfl, b3⟩; have K1 := Lib.hid (K0.out.keep b3); have L1 := Lib.hid (L0.out.trans (b3.mono L0.out.size)); clear b3))
      | (go_at_call 31; ((with_reducible refine (CN2.out _ L1.out).mono ?_); rintro e w3 ⟨rfl, b3⟩; have K2 := Lib.hid (K1.out.keep b3); have L2 := Lib.hid (L1.out.trans (b3.mono L1.out.size)); clear b3))
      | (go_at_call 31; ((with_reducible refine (CN3.out _ L2.out).mono ?_); rintro e w3 ⟨rfl, b3⟩; have K3 := Lib.hid (K2.out.keep b3); have L3 := Lib.hid (L2.out.trans (b3.mono L2.out.size)); clear b3))
      | (go_at_call 31; ((with_reducible refine (CN4.out _ L3.out).mono ?_); rintro e w3 ⟨rfl, b3⟩; have K4 := Lib.hid (K3.out.keep b3); have L4 := Lib.hid (L3.out.trans (b3.mono L3.out.size)); clear b3))
      | (go_at_call 31; ((with_reducible refine (CN5.out _ L4.out).mono ?_); rintro e w3 ⟨rfl, b3⟩; have K5 := Lib.hid (K4.out.keep b3); have L5 := Lib.hid (L4.out.trans (b3.mono L4.out.size)); clear b3))
      | (go_at_call 31; ((with_reducible refine (CN6.out _ L5.out).mono ?_); rintro e w3 ⟨rfl, b3⟩; have K6 := Lib.hid (K5.out.keep b3); have L6 := Lib.hid (L5.out.trans (b3.mono L5.out.size)); clear b3))
      | (go_at_call 31; ((with_reducible refine (CN7.out _ L6.out).mono ?_); rintro e w3 ⟨rfl, b3⟩; have K7 := Lib.hid (K6.out.keep b3); have L7 := Lib.hid (L6.out.trans (b3.mono L6.out.size)); clear b3; have kw := K7.out.wr; have kr := K7.out.rd)))
    rw [nine_set K7.out]
    refine bodyPost_ret (results_cellt rfl _ _ b0 _ _ (0, 0) _ rfl (setObj_at (lt_of_block K7.out) _) Try.underlying23 rfl (by kernel_rfl)) rfl ?_
    exact ⟨congrArg Ending.returned HE.out.symm, L7.out.trans ((Fr.setObj (F := fun k => k = b0) (Fr.refl _ _) rfl _).below L7.out.size (fun k hk => by have := HB0.out; omega))⟩
end Go.Proofs.Ytfpknklnbgmflaa
