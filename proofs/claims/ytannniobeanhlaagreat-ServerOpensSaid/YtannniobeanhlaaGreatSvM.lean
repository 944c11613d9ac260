import Derived.Test.YtannniobeanhlaaGreatZSvH
import Derived.Test.YtannniobeanhlaaGreatZPhase
/- The law ServerOpens of layer 18 (server), walked. -/
namespace Go.Proofs.YtannniobeanhlaaGreat
set_option linter.unusedSimpArgs false
set_option linter.unusedVariables false
set_option maxRecDepth 100000
open Go.ChangeShapes Go.WideShapes Go.ChangeAt Go.RowKit
theorem rdru_nil (w : World) : RdRu w none 0 0 [] := ⟨Nat.le_refl _, by unfold maxLen; omega, rfl, fun h => absurd h (by omega), fun r hr => by cases hr⟩
theorem box6A (X : World) (a b c : Int) : ∃ w1 w2, X.alloc (.cells #[.int .i64 0, .int .i64 0, .int .i64 0, .slice none 0 0, .int .i64 0, .slice none 0 0] 42) = w1 ∧
    (∀ j, w1.cell? ⟨X.heap.size, j, none⟩ = (#[.int .i64 0, .int .i64 0, .int .i64 0, .slice none 0 0, .int .i64 0, .slice none 0 0] : Array Value)[j]?) ∧ (∀ j, w1.frozen? ⟨X.heap.size, j, none⟩ = false) ∧
    (((((w1.setCell ⟨X.heap.size, 0, none⟩ (.int .i64 a)).setCell ⟨X.heap.size, 1, none⟩ (.int .i64 b)).setCell ⟨X.heap.size, 2, none⟩ (.int .i64 c)).setCell ⟨X.heap.size, 3, none⟩ (.slice none 0 0)).setCell ⟨X.heap.size, 4, none⟩ (.int .i64 0)).setCell ⟨X.heap.size, 5, none⟩ (.slice none 0 0) = w2 ∧
    Below X.heap.size X w2 ∧ Blk w2 X.heap.size 42 (actC a b c (.slice none 0 0) 0 (.slice none 0 0)) := by
  obtain ⟨w1, hw1, k1, b1, s1⟩ := box_new X #[.int .i64 0, .int .i64 0, .int .i64 0, .slice none 0 0, .int .i64 0, .slice none 0 0] 42
  have hl := lt_of_block k1
  have he : (((((w1.setCell ⟨X.heap.size, 0, none⟩ (.int .i64 a)).setCell ⟨X.heap.size, 1, none⟩ (.int .i64 b)).setCell ⟨X.heap.size, 2, none⟩ (.int .i64 c)).setCell ⟨X.heap.size, 3, none⟩ (.slice none 0 0)).setCell ⟨X.heap.size, 4, none⟩ (.int .i64 0)).setCell ⟨X.heap.size, 5, none⟩ (.slice none 0 0) = setObj w1 X.heap.size (.cells (actC a b c (.slice none 0 0) 0 (.slice none 0 0)) 42 (0, 0)) := by
    rw [setCell_obj k1]
    simp only [setCell_in hl, List.setIfInBounds_toArray, List.set_cons_zero, List.set_cons_succ]
  exact ⟨w1, _, hw1, k1.rd, k1.wr, he, b1.trans ((Fr.setObj (F := fun k => k = X.heap.size) (Fr.refl _ _) rfl _).below b1.size (fun k hk => by omega)), setObj_at hl _⟩
/-- which connections are open, as an array's cells. -/
def opC (σs : List CnS) : Array Value := (σs.map fun σ => Value.bool σ.op).toArray
theorem opC_get {σs : List CnS} {k : Nat} {σ : CnS} (h : σs[k]? = some σ) : (opC σs)[k]? = some (.bool σ.op) := by
  unfold opC
  rw [List.getElem?_toArray, List.getElem?_map, h]; rfl
theorem opC_set {w : World} {b : Nat} {t : TypeId} {σs : List CnS} (h : Blk w b t (opC σs)) (k : Nat) (σ' : CnS) :
    ∃ w', w.setCell ⟨b, k, none⟩ (.bool σ'.op) = w' ∧ Blk w' b t (opC (σs.set k σ')) ∧ Fr (fun j => j = b) w w' := by
  have hb := lt_of_block h
  have e : (opC σs).setIfInBounds k (.bool σ'.op) = opC (σs.set k σ') := by
    unfold opC
    rw [List.setIfInBounds_toArray, List.map_set]
  refine ⟨_, rfl, ?_, ?_⟩
  · rw [setCell_obj h, e]
    exact setObj_at hb _
  · rw [setCell_obj h, e]
    exact Fr.setObj (F := fun k => k = b) (Fr.refl _ _) rfl _
theorem set6a {w : World} {b : Nat} {t : TypeId} {c0 c1 c2 c3 c4 c5 : Value} (h : Blk w b t #[c0, c1, c2, c3, c4, c5]) (v0 : Value) :
    ∃ w', w.setCell ⟨b, 0, none⟩ v0 = w' ∧ Blk w' b t #[v0, c1, c2, c3, c4, c5] ∧ Fr (fun k => k = b) w w' := by
  have hb := lt_of_block h
  refine ⟨_, rfl, ?_, ?_⟩
  · rw [setCell_obj h]
    exact setObj_at hb _
  · rw [setCell_obj h]
    exact Fr.setObj (F := fun k => k = b) (Fr.refl _ _) rfl _
theorem onS_op (kd : Int) (σ : CnS) (h : kd = 0 ∨ kd = 1) : (onS kd σ).2.op = (kd == 0) ∧ (onS kd σ).1 = (if σ.op == (kd == 0) then 11 else 0) := by
  rcases h with rfl | rfl
  · unfold onS
    cases ho : σ.op <;> simp [ho]
  · unfold onS
    cases ho : σ.op <;> simp [ho]
theorem opens_k (x : Int) : ∃ (a y : Int) (k : Nat), (x / 2).tmod 3 = a ∧ IntKind.i64.wrap (a + 3) = y ∧ y.tmod 3 = (k : Int) ∧ k < 3 := by
  have h1 := Int.tmod_lt_of_pos (x / 2) (show (0 : Int) < 3 by omega)
  have h2 : -3 < (x / 2).tmod 3 := Int.lt_tmod_of_pos (x / 2) (show (0 : Int) < 3 by omega)
  obtain ⟨a, ha⟩ : ∃ z, z = (x / 2).tmod 3 := ⟨_, rfl⟩
  rw [← ha] at h1 h2
  refine ⟨a, a + 3, ((a + 3).tmod 3).toNat, ha.symm, by rw [IntKind.wrap_i64]; omega, ?_, ?_⟩
  · rw [Int.toNat_of_nonneg (Int.tmod_nonneg _ (by omega))]
  · have h3 := Int.tmod_lt_of_pos (a + 3) (show (0 : Int) < 3 by omega)
    have h4 := Int.tmod_nonneg (a := a + 3) 3 (by omega)
    omega
theorem step_err (e : Int) (w : World) : (Instr.field 46 (.agg #[.int .i64 e, .int .i64 0, .slice none 0 0, .slice none 0 0]) 0).run Tryz.prog w = .ok (.int .i64 e) w := by kernel_rfl
section
variable {w w' W : World}
/-- what the law keeps. -/
structure OpSt (W w : World) (base s ob : Nat) (c : SvC) (Ns : List LmN) (Ss : List LmS) (Ks : List CnN) (σs : List CnS) : Prop where
  sv : SvAt w base s c Ns Ss Ks σs
  ob_ : Blk w ob 108 (opC σs)
  l3 : σs.length = 3
  lo : W.heap.size ≤ base ∧ W.heap.size ≤ ob
  nw : ¬ (ob = s) ∧ ∀ (i : Nat) K, Ks[i]? = some K → ¬ K.F ob
  nl : ∀ (i : Nat) N, Ns[i]? = some N → ¬ N.all ob
  bl : Below W.heap.size W w
variable {base s ob : Nat} {c : SvC} {Ns : List LmN} {Ss : List LmS} {Ks : List CnN} {σs : List CnS}
theorem OpSt.keep (h : OpSt W w base s ob c Ns Ss Ks σs) (hb : Below w.heap.size w w') : OpSt W w' base s ob c Ns Ss Ks σs := ⟨h.sv.keep hb, h.ob_.keep hb, h.l3, h.lo, h.nw, h.nl, h.bl.trans (hb.mono h.bl.size)⟩
/-- a box of the law's own changes. -/
theorem OpSt.box (h : OpSt W w base s ob c Ns Ss Ks σs) {ab : Nat} (hf : Fr (fun b => b = ab) w w') (h1 : ob ≠ ab) (h2 : W.heap.size ≤ ab) (h3 : s < ab) (h4 : ∀ (i : Nat) N, Ns[i]? = some N → ¬ N.all ab) (h5 : ∀ (i : Nat) K, Ks[i]? = some K → ¬ K.F ab) : OpSt W w' base s ob c Ns Ss Ks σs :=
  ⟨h.sv.fr hf (fun e => by omega) (fun i N hN b hb e => by rw [e] at hb; exact h4 i N hN hb) (fun i K hK b hb e => by rw [e] at hb; exact h5 i K hK hb), h.ob_.fr hf h1, h.l3, h.lo, h.nw, h.nl, h.bl.trans (hf.below h.bl.size (fun b hb => by rw [hb]; exact h2))⟩
/-- an act on connection k, and the array told. -/
theorem OpSt.act (h : OpSt W w base s ob c Ns Ss Ks σs) {k : Nat} {K : CnN} {σ' : CnS} {c' : SvC} (hK : Ks[k]? = some K) (hs : SvAt w' base s c' Ns Ss Ks (σs.set k σ')) (hf : Fr (fun b => K.F b ∨ b = s) w w') {w2 : World} (hb : Blk w2 ob 108 (opC (σs.set k σ'))) (hf2 : Fr (fun b => b = ob) w' w2) : OpSt W w2 base s ob c' Ns Ss Ks (σs.set k σ') := by
  refine ⟨hs.fr hf2 (fun e => h.nw.1 e.symm) (fun i N hN b hb e => ?_) (fun i K hK b hb e => ?_), hb, by rw [List.length_set]; exact h.l3, h.lo, h.nw, h.nl, ?_⟩
  · rw [e] at hb; exact h.nl i N hN hb
  · rw [e] at hb; exact h.nw.2 i K hK hb
  · refine (h.bl.trans (hf.below h.bl.size (fun b hb => ?_))).trans (hf2.below (Nat.le_trans h.bl.size hf.size) (fun b hb => by rw [hb]; exact h.lo.2))
    rcases hb with hb | hb
    · exact Nat.le_trans h.lo.1 (h.sv.K.lo k K hK b hb)
    · rw [hb]; exact Nat.le_trans h.lo.1 h.sv.lo
end
set_option maxHeartbeats 8000000 in
theorem svopens_law (w : World) (A : Option Addr) (n c0 : Nat) (zs : List Int) (hr : RdI w .i64 A n c0 zs) :
    Calls Tryz.prog 10 #[.slice A n c0] w fun e w' => e = .returned (.bool true) ∧ Below w.heap.size w w' := by
  have hmx := hr.max
  unfold maxLen at hmx
  have hcp := hr.cap
  have HR := Lib.hid hr
  clear hr
  go_enter Tryz.func10, Tryz.ntmps10
  go_upto_region 3 with (go_at_call 12; ((refine (svfit_any _).mono ?_); rintro e w1 ⟨rfl, b1⟩; have B1 := Lib.hid b1; clear b1))
  by_cases hn : 200 < n
  · have t1 : decide ((200 : Int) < (n : Int)) = true := by rw [decide_eq_true_iff]; omega
    clear hn
    go_wp2
    go_ret
    exact ⟨rfl, B1.out⟩
  have t1 : decide ((200 : Int) < (n : Int)) = false := by rw [decide_eq_false_iff_not]; omega
  have HN := Lib.hid (show n ≤ 200 by omega)
  clear hn
  go_upto_region 5 with (fail)
  clear t1
  have CF := Lib.hid (svconf_x [] 660 none 0 0 0 rfl w1 (rdru_nil w1))
  go_upto_region 6 with (first
    | (go_at_call 14; ((with_reducible refine CF.out.mono ?_); rintro e w2 ⟨A', m, c', rfl, r2, z2, b2⟩; have B2 := Lib.hid (show Below w.heap.size w w2 from B1.out.trans (b2.mono B1.out.size)); have CN := Lib.hid (svnew_nil _ 4294967296 660 A' m c' w2 r2 z2); clear r2 z2 b2))
    | (go_at_call 15; ((with_reducible refine CN.out.mono ?_); rintro e w3 ⟨s, c, Ns, Ks, rfl, h3, n3, l3, p3, b3⟩; have B3 := Lib.hid (show Below w.heap.size w w3 from B2.out.trans (b3.mono B2.out.size)); have H3 := Lib.hid h3; have L3 := Lib.hid l3; clear h3 n3 l3 p3 b3)))
  clear CF CN
  go_upto_region 8 with (fail)
  obtain ⟨w4, hw4, k4, b4, s4⟩ := box_new w3 #[.bool false, .bool false, .bool false] 108
  obtain ⟨ob, hob⟩ : ∃ z, z = w3.heap.size := ⟨_, rfl⟩
  have O4 := Lib.hid (show OpSt w w4 w2.heap.size s ob c Ns (rsZ (confR [])) Ks [cZ, cZ, cZ] from ⟨H3.out.keep b4, by rw [hob]; exact k4, rfl, ⟨B2.out.size, by rw [hob]; exact B3.out.size⟩, ⟨fun e => by have := H3.out.sv.lt; omega, fun i K hK hb => by have := H3.out.K.lt hK ob hb; omega⟩, fun i N hN hb => by have := H3.out.J.lt hN ob hb; omega, B3.out.trans (b4.mono B3.out.size)⟩)
  have HOB := Lib.hid hob
  clear k4 b4 s4 hob
  go_upto_region 9 with (fail)
  rw [← HOB.out]
  clear hw4
  obtain ⟨base, hbase⟩ : ∃ z, z = w2.heap.size := ⟨_, rfl⟩
  obtain ⟨Ss, hSs⟩ : ∃ z, z = rsZ (confR []) := ⟨_, rfl⟩
  rw [← hbase, ← hSs] at O4
  clear hbase hSs
  go_wp2
  go_loopg [26] n (fun kk si wr => ∃ (i : Nat) (c : SvC) (σs : List CnS), i ≤ n ∧ Hid (kk = n - i) ∧ si = .int .i64 (i : Int) ∧ Hid (OpSt w wr base s ob c Ns Ss Ks σs))
  case atStart => exact ⟨0, c, _, by omega, Lib.hid rfl, rfl, O4⟩
  case round =>
    obtain ⟨i, c, σs, hi, HKK, rfl, HO⟩ := hrel
    by_cases hin : i < n
    · obtain ⟨b', off, rfl, hbl, hcl⟩ := (HR.out.below HO.out.bl).at_ (by omega)
      obtain ⟨x, hx⟩ : ∃ x, x = zs.getD i 0 := ⟨_, rfl⟩
      have hc := hcl i hin
      rw [← hx] at hc
      obtain ⟨xa, xy, k, e1, e2, e3, hk⟩ := opens_k x
      have t1 : (i : Int) < (n : Int) := by omega
      have HIN := Lib.hid hin
      have HKL := Lib.hid hk
      clear hbl hcl hx hin
      obtain ⟨y1, y2, ey1, kr, kw, ey2, by_, ky⟩ := box6A wr 0 (i : Int) (k : Int)
      obtain ⟨ab, hab⟩ : ∃ z, z = wr.heap.size := ⟨_, rfl⟩
      rw [← hab] at ky
      have HAB := Lib.hid hab
      have O5 := Lib.hid (HO.out.keep by_)
      have KA := Lib.hid ky
      clear by_ ky hab hk
      go_upto_region 14 with (fail)
      rw [← HAB.out]
      clear hc ey1 kr kw ey2 e1 e2 e3
      obtain ⟨σ, hσ⟩ : ∃ σ, σs[k]? = some σ := ⟨_, List.getElem?_eq_getElem (by rw [O5.out.l3]; exact HKL.out)⟩
      obtain ⟨Kn, hKn⟩ : ∃ K, Ks[k]? = some K := ⟨_, List.getElem?_eq_getElem (by rw [L3.out]; exact HKL.out)⟩
      have HSG := Lib.hid (And.intro hσ hKn)
      clear hσ hKn
      obtain ⟨xm, hxm⟩ : ∃ z, z = x % 2 := ⟨_, rfl⟩
      have e1 : bits .and .i64 x 1 = xm := by rw [G.i64_mask1, hxm]
      clear hxm
      go_upto_if 41 with (fail)
      clear e1
      obtain ⟨bq, hbq⟩ : ∃ z : Bool, z = (xm == 1) := ⟨_, rfl⟩
      rw [← hbq]
      clear hbq
      go_cut [] from 27 to 73 (fun wx => ∃ kd : Int, Hid (kd = 0 ∨ kd = 1) ∧ Hid (Blk wx ab 42 (actC kd (i : Int) (k : Int) (.slice none 0 0) 0 (.slice none 0 0))) ∧ Hid (OpSt w wx base s ob c Ns Ss Ks σs))
      case first =>
        cases bq
        · go_wp2
          go_meet
          case rel => exact ⟨0, Lib.hid (Or.inl rfl), KA, O5⟩
        · obtain ⟨y3, e3, k3, f3⟩ := set6a KA.out (.int .i64 1)
          have K3 := Lib.hid (show Blk y3 ab 42 (actC 1 (i : Int) (k : Int) (.slice none 0 0) 0 (.slice none 0 0)) from k3)
          have O6 := Lib.hid (show OpSt w y3 base s ob c Ns Ss Ks σs from O5.out.box f3 (fun e => by have h1 := HAB.out; have h2 := lt_of_block HO.out.ob_; omega) (by rw [HAB.out]; exact HO.out.bl.size) (by rw [HAB.out]; exact HO.out.sv.sv.lt) (fun j N hN hb => by have h1 := HAB.out; have h2 := HO.out.sv.J.lt hN ab hb; omega) (fun j N hN hb => by have h1 := HAB.out; have h2 := HO.out.sv.K.lt hN ab hb; omega))
          have kz := KA.out.rd
          have kzw := KA.out.wr
          clear k3 f3
          go_wp2
          go_meet
          case rel => (try rw [e3]); exact ⟨1, Lib.hid (Or.inr rfl), K3, O6⟩
      case rest =>
      obtain ⟨kd, HKD, KA1, O7⟩ := hcut
      obtain ⟨yc, rfl⟩ : ∃ z, z = wc := ⟨_, rfl⟩
      clear KA O5
      have t2 : ¬ (k : Int) < 0 := by omega
      have t3 : (k : Int) < 3 := by have := HKL.out; omega
      have N0 := Lib.hid (show Below yc.heap.size yc yc.drew from below_draws (Below.refl _ _) 1)
      have ST := Lib.hid (fun wx (ho : Blk wx ob 108 (opC σs)) (ha : Blk wx ab 42 (actC kd (i : Int) (k : Int) (.slice none 0 0) 0 (.slice none 0 0))) => show wx.cell? ⟨ob, k, none⟩ = some (.bool σ.op) ∧ wx.cell? ⟨ab, 0, none⟩ = some (.int .i64 kd) from ⟨(ho.rd k).trans (opC_get HSG.out.1), ha.rd 0⟩)
      have st := ST.out _ (O7.out.ob_.keep N0.out) (KA1.out.keep N0.out)
      go_upto_region 17 with (fail)
      refine wp_region_held_drew (S := fun wx => wx.cell? ⟨ob, k, none⟩ = some (.bool σ.op) ∧ wx.cell? ⟨ab, 0, none⟩ = some (.int .i64 kd)) (by kernel_rfl) st (fun hHeld => ?_)
      clear st
      refine wpAnyH_take (i := 0) (oi := ?_) (v := ?_) ?_ ?_ ?_ ?_ ?_ ?_ ?_ ?_
      rotate_left 2
      · simp only [List.getElem?_toArray, List.getElem?_cons_succ, List.getElem?_cons_zero]; rfl
      · kernel_rfl
      · kernel_rfl
      · kernel_rfl
      · exact fun _ _ _ h => h
      · refine Or.inl ⟨by rfl, ?_⟩
        intro w' hSw
        (try dsimp only at hSw)
        go_simp
        all_goals (with_reducible rfl)
      · assumption
      try simp only [Act.put, List.setIfInBounds_toArray, List.set_cons_zero, List.set_cons_succ]
      refine wpAnyH_take (i := 1) (oi := ?_) (v := ?_) ?_ ?_ ?_ ?_ ?_ ?_ ?_ ?_
      rotate_left 2
      · simp only [List.getElem?_toArray, List.getElem?_cons_succ, List.getElem?_cons_zero]; rfl
      · kernel_rfl
      · kernel_rfl
      · kernel_rfl
      · exact fun _ _ _ h => h
      · refine Or.inl ⟨by rfl, ?_⟩
        intro w' hSw
        (try dsimp only at hSw)
        go_simp
        all_goals (with_reducible rfl)
      · assumption
      try simp only [Act.put, List.setIfInBounds_toArray, List.set_cons_zero, List.set_cons_succ]
      refine wpAnyH_take (i := 2) (oi := ?_) (v := ?_) ?_ ?_ ?_ ?_ ?_ ?_ ?_ ?_
      rotate_left 2
      · simp only [List.getElem?_toArray, List.getElem?_cons_succ, List.getElem?_cons_zero]; rfl
      · kernel_rfl
      · kernel_rfl
      · kernel_rfl
      · exact fun _ _ _ h => h
      · refine Or.inl ⟨by rfl, ?_⟩
        intro w' hSw
        (try dsimp only at hSw)
        go_simp
        all_goals (with_reducible rfl)
      · assumption
      try simp only [Act.put, List.setIfInBounds_toArray, List.set_cons_zero, List.set_cons_succ]
      refine wpAnyH_take (i := 3) (oi := ?_) (v := ?_) ?_ ?_ ?_ ?_ ?_ ?_ ?_ ?_
      rotate_left 2
      · simp only [List.getElem?_toArray, List.getElem?_cons_succ, List.getElem?_cons_zero]; rfl
      · kernel_rfl
      · kernel_rfl
      · kernel_rfl
      · exact fun _ _ _ h => h
      · refine Or.inl ⟨by rfl, ?_⟩
        intro w' hSw
        (try dsimp only at hSw)
        go_simp
        all_goals (with_reducible rfl)
      · assumption
      try simp only [Act.put, List.setIfInBounds_toArray, List.set_cons_zero, List.set_cons_succ]
      refine wpAnyH_take (i := 4) (oi := ?_) (v := ?_) ?_ ?_ ?_ ?_ ?_ ?_ ?_ ?_
      rotate_left 2
      · simp only [List.getElem?_toArray, List.getElem?_cons_succ, List.getElem?_cons_zero]; rfl
      · kernel_rfl
      · kernel_rfl
      · kernel_rfl
      · exact fun _ _ _ h => h
      · refine Or.inl ⟨by rfl, ?_⟩
        intro w' hSw
        (try dsimp only at hSw)
        go_simp
        all_goals (with_reducible rfl)
      · assumption
      try simp only [Act.put, List.setIfInBounds_toArray, List.set_cons_zero, List.set_cons_succ]
      refine wpAnyH_take (i := 5) (oi := ?_) (v := ?_) ?_ ?_ ?_ ?_ ?_ ?_ ?_ ?_
      rotate_left 2
      · simp only [List.getElem?_toArray, List.getElem?_cons_succ, List.getElem?_cons_zero]; rfl
      · kernel_rfl
      · kernel_rfl
      · kernel_rfl
      · exact fun _ _ _ h => h
      · refine Or.inl ⟨by rfl, ?_⟩
        intro w' hSw
        (try dsimp only at hSw)
        go_simp
        all_goals (with_reducible rfl)
      · assumption
      try simp only [Act.put, List.setIfInBounds_toArray, List.set_cons_zero, List.set_cons_succ]
      refine wpAnyH_take (i := 6) (oi := ?_) (v := ?_) ?_ ?_ ?_ ?_ ?_ ?_ ?_ ?_
      rotate_left 2
      · simp only [List.getElem?_toArray, List.getElem?_cons_succ, List.getElem?_cons_zero]; rfl
      · kernel_rfl
      · kernel_rfl
      · kernel_rfl
      · exact fun _ _ _ h => h
      · refine Or.inl ⟨by rfl, ?_⟩
        intro w' hSw
        (try dsimp only at hSw)
        go_simp
        all_goals (with_reducible rfl)
      · assumption
      try simp only [Act.put, List.setIfInBounds_toArray, List.set_cons_zero, List.set_cons_succ]
      refine wpAnyH_done (by kernel_rfl) ?_ _
      clear hHeld
      have O8 := Lib.hid (O7.out.keep N0.out)
      have KA2 := Lib.hid (KA1.out.keep N0.out)
      obtain ⟨yd, hyd⟩ : ∃ z, z = yc.drew := ⟨_, rfl⟩
      rw [← hyd] at O8 KA2 ⊢
      clear hyd N0 ST KA1 O7
      obtain ⟨σ', hσ'⟩ : ∃ z, z = (onS kd σ).2 := ⟨_, rfl⟩
      obtain ⟨oe, hoe⟩ : ∃ z, z = (onS kd σ).1 := ⟨_, rfl⟩
      obtain ⟨hop, her⟩ := onS_op kd σ HKD.out
      rw [← hσ'] at hop
      rw [← hoe] at her
      have CD := Lib.hid (fun (wx : World) (hx : SvAt wx base s c Ns Ss Ks σs) => show Calls Tryz.prog 20 #[.pointer (some ⟨s, 0, none⟩), .agg #[.int .i64 kd, .int .i64 (i : Int), .int .i64 (k : Int), .slice none 0 0, .int .i64 0, .slice none 0 0]] wx (fun e w' => e = .returned (.agg #[.int .i64 oe, .int .i64 0, .slice none 0 0, .slice none 0 0]) ∧ SvAt w' base s (c.read (i : Int)).end Ns Ss Ks (σs.set k σ') ∧ Fr (fun b => Kn.F b ∨ b = s) wx w') from by
        rw [hσ', hoe]
        exact svdo_at kd (i : Int) k 0 (.slice none 0 0) (.slice none 0 0) wx hx (by have := HKL.out; omega) HSG.out.2 HSG.out.1 (by rcases HKD.out with h | h <;> omega) (fun h => by rcases HKD.out with h2 | h2 <;> omega))
      have HOP := Lib.hid hop
      clear hσ' hoe hop
      go_upto_if 49 with (fail)
      obtain ⟨bq2, hbq2⟩ : ∃ z : Bool, z = (σ.op == (kd == 0)) := ⟨_, rfl⟩
      rw [← hbq2] at her ⊢
      have HER := Lib.hid her
      clear hbq2 her
      go_cut [10] from 27 to 73 (fun s10 wx => s10 = .int .i64 oe ∧ wx = yd)
      case first =>
        have her := HER.out
        cases bq2
        · rw [if_neg (by decide)] at her
          subst her
          go_wp2
          go_meet
          case rel => exact ⟨rfl, rfl⟩
        · rw [if_pos rfl] at her
          subst her
          go_wp2
          go_meet
          case rel => exact ⟨rfl, rfl⟩
      case rest =>
      obtain ⟨rfl, hwc⟩ := hcut
      subst hwc
      have kar := KA2.out.rd
      have hfd := step_err oe
      have HABX := Lib.hid (show ab ≠ ob ∧ ¬ Kn.F ab ∧ ab ≠ s from ⟨fun e => by have h1 := HAB.out; have h2 := lt_of_block HO.out.ob_; omega, fun hb => by have h1 := HAB.out; have h2 := HO.out.sv.K.lt HSG.out.2 ab hb; omega, by have h1 := HAB.out; have h2 := HO.out.sv.sv.lt; omega⟩)
      go_upto_region 21 with (go_at_call 20; ((with_reducible refine (CD.out _ O8.out.sv).mono ?_); rintro e w6 ⟨rfl, h6, f6⟩; have S6 := Lib.hid h6; have F6 := Lib.hid f6; have KA6 := Lib.hid (KA2.out.fr f6 (fun e => by rcases e with e | e; exact HABX.out.2.1 e; exact HABX.out.2.2 e)); have OB6 := Lib.hid (O8.out.ob_.fr f6 (fun e => by rcases e with e | e; exact O8.out.nw.2 k Kn HSG.out.2 e; exact O8.out.nw.1 e)); have kar6 := KA6.out.rd; clear h6 f6))
      clear kar CD hfd
      obtain ⟨w7, e7, k7, f7⟩ := opC_set OB6.out k σ'
      rw [HOP.out] at e7
      have ko : w6.cell? ⟨ob, k, none⟩ = some (.bool σ.op) := (OB6.out.rd k).trans (opC_get HSG.out.1)
      have kow := OB6.out.wr
      have O9 := Lib.hid (O8.out.act HSG.out.2 S6.out F6.out k7 f7)
      clear k7 f7
      go_upto_region 22 with (fail)
      try rw [e7]
      clear e7 ko kow kar6 t2 t3
      obtain ⟨c9, hc9⟩ : ∃ z, z = (c.read (i : Int)).end := ⟨_, rfl⟩
      rw [← hc9] at O9
      clear hc9
      go_wp2
      go_loopg [61] 3 (fun kk sj wq => ∃ j : Nat, j ≤ 3 ∧ Hid (kk = 3 - j) ∧ sj = .int .i64 (j : Int) ∧ Hid (OpSt w wq base s ob c9 Ns Ss Ks (σs.set k σ')))
      case atStart => exact ⟨0, by omega, Lib.hid rfl, rfl, O9⟩
      case round =>
        obtain ⟨j, hj, HKJ, rfl, HQ⟩ := hrel
        by_cases hj3 : j < 3
        · obtain ⟨σj, hσj⟩ : ∃ σ, (σs.set k σ')[j]? = some σ := ⟨_, List.getElem?_eq_getElem (by rw [HQ.out.l3]; exact hj3)⟩
          obtain ⟨Kj, hKj⟩ : ∃ K, Ks[j]? = some K := ⟨_, List.getElem?_eq_getElem (by rw [L3.out]; exact hj3)⟩
          have HJ := Lib.hid (And.intro hσj (And.intro hKj hj3))
          have t1 : (j : Int) < 3 := by omega
          have t2 : ¬ (j : Int) < 0 := by omega
          clear hσj hKj hj3
          have N0 := Lib.hid (show Below wr.heap.size wr wr.drew from below_draws (Below.refl _ _) 1)
          have CC := Lib.hid (svconn_at HQ.out.sv (by have := HJ.out.2.2; omega) HJ.out.2.1 wr.drew c9 (HQ.out.sv.sv.keep N0.out) rfl)
          have CI := Lib.hid (cisopen_any wr.drew ((HQ.out.sv.K.at_ j Kj σj HJ.out.2.1 HJ.out.1).keep N0.out))
          have st : wr.drew.cell? ⟨ob, j, none⟩ = some (.bool σj.op) := ((HQ.out.ob_.keep N0.out).rd j).trans (opC_get HJ.out.1)
          have ST := Lib.hid st
          go_upto_region 25 with (fail)
          refine wp_region_held_drew (S := fun wx => wx.cell? ⟨ob, j, none⟩ = some (.bool σj.op)) (by kernel_rfl) st (fun hHeld => ?_)
          clear st
          refine wpAnyH_take (i := 0) (oi := ?_) (v := ?_) ?_ ?_ ?_ ?_ ?_ ?_ ?_ ?_
          rotate_left 2
          · simp only [List.getElem?_toArray, List.getElem?_cons_succ, List.getElem?_cons_zero]; rfl
          · kernel_rfl
          · kernel_rfl
          · kernel_rfl
          · exact fun _ _ _ h => h
          · refine Or.inl ⟨by rfl, ?_⟩
            intro w' hSw
            (try dsimp only at hSw)
            go_simp
            all_goals (with_reducible rfl)
          · assumption
          try simp only [Act.put, List.setIfInBounds_toArray, List.set_cons_zero, List.set_cons_succ]
          refine wpAnyH_take (i := 1) (oi := ?_) (v := ?_) ?_ ?_ ?_ ?_ ?_ ?_ ?_ ?_
          rotate_left 2
          · simp only [List.getElem?_toArray, List.getElem?_cons_succ, List.getElem?_cons_zero]; rfl
          · kernel_rfl
          · kernel_rfl
          · kernel_rfl
          · exact fun _ _ _ h => h
          · refine Or.inl ⟨by rfl, ?_⟩
            intro w' hSw
            (try dsimp only at hSw)
            go_simp
            all_goals (with_reducible rfl)
          · assumption
          try simp only [Act.put, List.setIfInBounds_toArray, List.set_cons_zero, List.set_cons_succ]
          refine wpAnyH_take (i := 4) (oi := ?_) (v := ?_) ?_ ?_ ?_ ?_ ?_ ?_ ?_ ?_
          rotate_left 2
          · simp only [List.getElem?_toArray, List.getElem?_cons_succ, List.getElem?_cons_zero]; rfl
          · kernel_rfl
          · kernel_rfl
          · kernel_rfl
          · exact fun _ _ _ h => h
          · refine Or.inl ⟨by rfl, ?_⟩
            intro w' hSw
            (try dsimp only at hSw)
            go_simp
            all_goals (with_reducible rfl)
          · assumption
          try simp only [Act.put, List.setIfInBounds_toArray, List.set_cons_zero, List.set_cons_succ]
          refine wpAnyH_take (i := 5) (oi := ?_) (v := ?_) ?_ ?_ ?_ ?_ ?_ ?_ ?_ ?_
          rotate_left 2
          · simp only [List.getElem?_toArray, List.getElem?_cons_succ, List.getElem?_cons_zero]; rfl
          · kernel_rfl
          · kernel_rfl
          · kernel_rfl
          · exact fun _ _ _ h => h
          · refine Or.inl ⟨by rfl, ?_⟩
            intro w' hSw
            (try dsimp only at hSw)
            go_simp
            all_goals (with_reducible rfl)
          · assumption
          try simp only [Act.put, List.setIfInBounds_toArray, List.set_cons_zero, List.set_cons_succ]
          refine wpAnyH_take (i := 6) (oi := ?_) (v := ?_) ?_ ?_ ?_ ?_ ?_ ?_ ?_ ?_
          rotate_left 2
          · simp only [List.getElem?_toArray, List.getElem?_cons_succ, List.getElem?_cons_zero]; rfl
          · kernel_rfl
          · kernel_rfl
          · kernel_rfl
          · exact fun _ _ _ h => h
          · refine Or.inl ⟨by rfl, ?_⟩
            intro w' hSw
            (try dsimp only at hSw)
            go_simp
            all_goals (with_reducible rfl)
          · assumption
          try simp only [Act.put, List.setIfInBounds_toArray, List.set_cons_zero, List.set_cons_succ]
          refine wpAnyH_ready (rs := [2]) (by kernel_rfl) (by simp) ?_
          refine AllReadyH.cons (o := ?_) ?_ ?_ ?_
          rotate_left 1
          · simp only [List.getElem?_toArray, List.getElem?_cons_succ, List.getElem?_cons_zero]; rfl
          rotate_left 1
          · exact AllReadyH.nil
          intro K hK
          go_simp
          ((with_reducible refine CC.out.mono ?_); rintro v wz ⟨rfl, rfl⟩)
          refine hK.out _ _ ST.out (fun hHeld => ?_)
          clear hK K
          try simp only [Act.put, List.setIfInBounds_toArray, List.set_cons_zero, List.set_cons_succ]
          refine wpAnyH_ready (rs := [3]) (by kernel_rfl) (by simp) ?_
          refine AllReadyH.cons (o := ?_) ?_ ?_ ?_
          rotate_left 1
          · simp only [List.getElem?_toArray, List.getElem?_cons_succ, List.getElem?_cons_zero]; rfl
          rotate_left 1
          · exact AllReadyH.nil
          intro K hK
          go_simp
          ((with_reducible refine CI.out.mono ?_); rintro v wz ⟨rfl, rfl⟩)
          refine hK.out _ _ ST.out (fun hHeld => ?_)
          clear hK K
          try simp only [Act.put, List.setIfInBounds_toArray, List.set_cons_zero, List.set_cons_succ]
          refine wpAnyH_take (i := 7) (oi := ?_) (v := ?_) ?_ ?_ ?_ ?_ ?_ ?_ ?_ ?_
          rotate_left 2
          · simp only [List.getElem?_toArray, List.getElem?_cons_succ, List.getElem?_cons_zero]; rfl
          · kernel_rfl
          · kernel_rfl
          · kernel_rfl
          · exact fun _ _ _ h => h
          · refine Or.inl ⟨by rfl, ?_⟩
            intro w' hSw
            (try dsimp only at hSw)
            go_simp
            all_goals (with_reducible rfl)
          · assumption
          try simp only [Act.put, List.setIfInBounds_toArray, List.set_cons_zero, List.set_cons_succ]
          refine wpAnyH_done (by kernel_rfl) ?_ _
          clear hHeld
          have O10 := Lib.hid (HQ.out.keep N0.out)
          go_wp2
          go_roundg (3 - (j + 1))
          case measure => have := HKJ.out; have := HJ.out.2.2; omega
          case rel => exact ⟨j + 1, HJ.out.2.2, Lib.hid rfl, by go_num, O10⟩
        · have hje : j = 3 := by omega
          subst hje
          go_wp2
          go_roundg (n - (i + 1))
          case measure => have := HKK.out; have := HIN.out; omega
          case rel => exact ⟨i + 1, c9, _, HIN.out, Lib.hid rfl, by go_num, HQ⟩
    · have hie : i = n := by omega
      subst hie
      go_wp2
      go_ret
      exact ⟨rfl, HO.out.bl⟩
end Go.Proofs.YtannniobeanhlaaGreat
