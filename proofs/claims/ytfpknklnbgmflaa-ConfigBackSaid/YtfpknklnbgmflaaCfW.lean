/- The laws of layer 17 (config), walked: configurations come back. -/
import Derived.Test.YtfpknklnbgmflaaCfV
namespace Go.Proofs.Ytfpknklnbgmflaa
set_option linter.unusedSimpArgs false
set_option linter.unusedVariables false
open Go.ChangeShapes Go.WideShapes Go.ChangeAt Go.RowKit Go.Deep
theorem own_set {w : World} {B g n c : Nat} {z : List Int} (h : Own w B (.slice (some ⟨g, 0, none⟩) n c) z) (hn : z.length = n) (a : Nat) (ha : a < n) (x : Int) :
    Own (w.setCell ⟨g, a, none⟩ (.int .u8 x)) B (.slice (some ⟨g, 0, none⟩) n c) (z.set a x) ∧ w.frozen? ⟨g, a, none⟩ = false ∧ (∃ v, w.cell? ⟨g, a, none⟩ = some v) ∧ Fr (fun k => k = g) w (w.setCell ⟨g, a, none⟩ (.int .u8 x)) := by
  subst hn
  rcases h.2 with ⟨e, _⟩ | ⟨g', cap, cur, e, hb, hg, hnc, hcm, hcs, ht⟩
  · cases e
  · injection e with e1 e2 e3
    injection e1 with e1; injection e1 with e1
    subst e1
    subst e3
    have hl := lt_of_block hg
    have hac : a < cur.size := by rw [hcs]; omega
    refine ⟨⟨by simp, .inr ⟨g, c, cur.setIfInBounds a (.int .u8 x), by simp, hb, ?_, by simpa using hnc, hcm, by simpa using hcs, ?_⟩⟩, blk_free hg, ⟨cur[a], by rw [blk_cell hg]; exact Array.getElem?_eq_getElem hac⟩, ?_⟩
    · rw [setCell_obj hg]; exact setObj_at hl _
    · simp only [Array.toList_setIfInBounds, Nat.mul_one, List.length_set] at ht ⊢
      rw [List.take_set, ht, List.map_set]
    · rw [setCell_obj hg]
      exact Fr.setObj (F := fun k => k = g) (Fr.refl _ _) rfl _
theorem own_rdx {w : World} {B : Nat} {v : Value} {zs : List Int} (h : Own w B v zs) (hb : ∀ z ∈ zs, 0 ≤ z ∧ z ≤ 255) (k : Nat) (hk : zs.length = k) (h0 : 0 < k) : ∃ g c, v = .slice (some ⟨g, 0, none⟩) k c ∧ RdI w .u8 (some ⟨g, 0, none⟩) k c zs ∧ B ≤ g := by
  subst hk
  obtain ⟨A, c, h1, h2, h3⟩ := h.rd hb
  obtain ⟨g, rfl, h4⟩ := h3 h0
  exact ⟨g, c, h1, h2, (h.lt g h4).1⟩
/-- the head of a slice. -/
theorem slice_head {w : World} {A : Option Addr} {n c : Nat} {q : List Int} (h : RdI w .u8 A n c q) {t : Nat} (ht : t ≤ n) :
    ∃ A', (∀ W, (Instr.slice 33 (.slice A n c) none (some (.int .i64 (t : Int))) none).run Try.prog W = .ok (.slice A' t c) W) ∧ RdI w .u8 A' t c (q.take t) := by
  have hc := h.cap
  have hm := h.max
  refine ⟨if c = 0 then A else A.map (·.add (0 * 1)), fun W => ?_, ?_⟩
  · rw [run_slice_h W 33 A n c (by kernel_rfl) .i64 (t : Int) (by omega) (by omega)]
    show (Result.andThen _ _) = _
    rw [show (sizeOf (Try.prog.elem 33)).run Try.prog W = .ok 1 W from by kernel_rfl]
    simp [sliced]
  · have e : (if c = 0 then A else A.map (·.add (0 * 1))) = A := by
      split
      · rfl
      · cases A with
        | none => rfl
        | some a => simp [Addr.add]
    rw [e]
    refine ⟨by rw [List.length_take, h.len]; omega, by omega, hm, fun h0 => ?_, fun z hz => h.wf z (List.mem_of_mem_take hz)⟩
    obtain ⟨b, off, e1, hlt, hc2⟩ := h.at_ (by omega)
    exact ⟨b, off, e1, hlt, fun i hi => by rw [hc2 i (by omega)]; simp [List.getD, List.getElem?_take, hi]⟩
theorem cdec_yes (A : Option Addr) (n c : Nat) (z : List Int) (k : Nat) (hn : n ≤ 100000) (w : World) (hr : RdI w .u8 A n c z) (h : DecOK z k) :
    Calls Try.prog 19 #[.slice A n c] w fun e w' => ∃ LA LC, e = .returned (.tuple #[.agg (coC (num8 z) (num8 (z.drop 8)) (num8 (z.drop 16)) (.slice LA k LC)), .int .i64 0]) ∧ w'.ownsRow w.heap.size 23 9 (.slice LA k LC) k (cells9 (lstR z k)) ∧ Below w.heap.size w w' :=
  (cdecode_any A n c z hn w hr).mono (fun e w' hd => by
    rcases hd with ⟨LA, LC, k', h1, h2, h3, h4⟩ | ⟨h1, _⟩
    · have e := dec_uniq h1 h
      subst e
      exact ⟨LA, LC, h2, h3, h4⟩
    · exact absurd h (h1 k))
theorem cdec_no (A : Option Addr) (n c : Nat) (z : List Int) (hn : n ≤ 100000) (w : World) (hr : RdI w .u8 A n c z) (h : ∀ k, ¬ DecOK z k) :
    Calls Try.prog 19 #[.slice A n c] w fun e w' => e = .returned (.tuple #[.agg (coC 0 0 0 (.slice none 0 0)), .int .i64 3]) ∧ Below w.heap.size w w' :=
  (cdecode_any A n c z hn w hr).mono (fun e w' hd => by
    rcases hd with ⟨LA, LC, k', h1, _⟩ | ⟨_, h2, h3⟩
    · exact absurd h1 (h k')
    · exact ⟨h2, h3⟩)
theorem idx_steps (a : Int) (M : Nat) (hM : 0 < M) (hM2 : M ≤ 608) : ∃ (rm : Int) (ix : Nat), a.tmod (M : Int) = rm ∧ (rm + (M : Int)).tmod (M : Int) = (ix : Int) ∧ ix < M ∧ (ix : Int) < (M : Int) ∧ wrap64 (rm + (M : Int)) = rm + (M : Int) ∧ wrap64 (ix : Int) = (ix : Int) ∧ wrap64 rm = rm ∧ (-608 < rm ∧ rm < 608) := by
  have hMp : (0 : Int) < (M : Int) := by omega
  have h1 := Int.tmod_lt_of_pos a hMp
  have h2 := Int.lt_tmod_of_pos a hMp
  obtain ⟨rm, hrm⟩ : ∃ rm, rm = a.tmod (M : Int) := ⟨_, rfl⟩
  rw [← hrm] at h1 h2
  obtain ⟨ix, hix⟩ : ∃ ix : Nat, (rm + (M : Int)) % (M : Int) = (ix : Int) := ⟨((rm + (M : Int)) % (M : Int)).toNat, by clear hrm; have := Int.emod_nonneg (rm + (M : Int)) (show (M : Int) ≠ 0 by omega); omega⟩
  have hixM : ix < M := by clear hrm; have := Int.emod_lt_of_pos (rm + (M : Int)) hMp; omega
  have e2 : (rm + (M : Int)).tmod (M : Int) = (ix : Int) := by clear hrm; rw [Int.tmod_eq_emod_of_nonneg (by omega)]; exact hix
  refine ⟨rm, ix, hrm.symm, e2, hixM, Int.ofNat_lt.2 hixM, ?_, ?_, ?_, ?_⟩
  all_goals clear e2 hrm hix
  · unfold wrap64; omega
  · unfold wrap64; omega
  · unfold wrap64; omega
  · omega
set_option maxHeartbeats 32000000 in
set_option maxRecDepth 100000 in
theorem back_law (w : World) (Bu Co Ou : Int) (A : Option Addr) (n c : Nat) (rs : List RuZ) (a : Int) (x : Nat) (hb3 : i64In Bu ∧ i64In Co ∧ i64In Ou) (hr : RdRu w A n c rs) (ha : -9223372036854775808 ≤ a ∧ a ≤ 9223372036854775807) (hx : x < 256) :
    Calls Try.prog 5 #[.agg (coC Bu Co Ou (.slice A n c)), .int .i64 a, .int .u8 (x : Int)] w fun e w' => e = .returned (.bool true) ∧ Below w.heap.size w w' := by
  have hcp := hr.cap
  have hmx := hr.max
  unfold maxLen at hmx
  have HR := Lib.hid hr
  have HLEN := Lib.hid hr.len
  have HB3 := Lib.hid hb3
  have HAT := Lib.hid ha
  have HX := Lib.hid hx
  obtain ⟨v, hv⟩ : ∃ v : Bool, v = true ↔ rightZ Bu Co Ou rs := by
    by_cases h : rightZ Bu Co Ou rs
    · exact ⟨true, fun _ => h, fun _ => rfl⟩
    · exact ⟨false, fun e => absurd e (by simp), fun e => absurd e h⟩
  have HV := Lib.hid hv
  have BOX := Lib.hid (box_new w (coC Bu Co Ou (.slice A n c)) 29)
  clear hr hb3 ha hx hv
  go_enter Try.func5, Try.ntmps5
  go_upto_region 1 with (fail)
  obtain ⟨w1, hw1, hbk, hbl, hsz⟩ := BOX.out
  change Code.wp _ _ _ _ (w.alloc (.cells (coC Bu Co Ou (.slice A n c)) 29))
  rw [hw1]
  obtain ⟨b1, hb1⟩ : ∃ b1, b1 = w.heap.size := ⟨_, rfl⟩
  rw [← hb1] at hbk ⊢
  have HB1 := Lib.hid hb1
  have P1 := Lib.hid hbk
  have BL1 := Lib.hid hbl
  clear hbk hbl hsz hw1 hb1
  go_upto_region 3 with (go_at_call 9; ((with_reducible refine (fit_any _).mono ?_); rintro e w2 ⟨rfl, b2⟩; have P2 := Lib.hid (P1.out.keep b2); have BL2 := Lib.hid (BL1.out.trans (b2.mono BL1.out.size)); clear b2))
  have k2 := P2.out.rd
  by_cases hn : (100 : Int) < (n : Int)
  · have dn : decide ((100 : Int) < (n : Int)) = true := decide_eq_true hn
    go_wp2
    go_ret
    exact ⟨rfl, BL2.out⟩
  have dn : decide ((100 : Int) < (n : Int)) = false := decide_eq_false hn
  have CLR := Lib.hid (lright_any Bu Co Ou A n c rs v HV.out w2 (HR.out.below BL2.out))
  cases v with
  | false =>
    go_wp2_with (go_at_call 15; ((with_reducible refine CLR.out.mono ?_); rintro e w3 ⟨rfl, b3⟩; have BL3 := Lib.hid (BL2.out.trans (b3.mono BL2.out.size)); clear b3))
    go_ret
    exact ⟨rfl, BL3.out⟩
  | true =>
    have HRI := Lib.hid (HV.out.1 rfl)
    obtain ⟨d0, d1, d2, d3, d4⟩ := dec_cfg HB3.out (fun r hr => HR.out.ok r hr) HRI.out
    rw [HLEN.out] at d3 d4
    obtain ⟨z, hz⟩ : ∃ z, z = cfgZ Bu Co Ou rs := ⟨_, rfl⟩
    obtain ⟨M, hM⟩ : ∃ M, M = 32 + 72 * n := ⟨_, rfl⟩
    have HZL := Lib.hid (show z.length = M from by rw [hz, cfgZ_length, HLEN.out, hM])
    have HZB := Lib.hid (show byt z from by rw [hz]; exact cfgZ_byt _ _ _ _)
    rw [← hz] at d0 d1 d2 d3 d4
    have HD := Lib.hid (And.intro d0 (And.intro d1 (And.intro d2 (And.intro d3 d4))))
    have HM := Lib.hid hM
    have HZ := Lib.hid hz
    have hn8 : 1 ≤ n ∧ n ≤ 8 := d4.2.1
    have HN8 := Lib.hid hn8
    have CE := Lib.hid (fun (A' : Option Addr) (c' : Nat) (wx : World) (h : RdRu wx A' n c' rs) => show Calls Try.prog 18 #[.agg (coC Bu Co Ou (.slice A' n c'))] wx (fun e w' => ∃ v', e = .returned v' ∧ Own w' wx.heap.size v' z ∧ Below wx.heap.size wx w') from by rw [hz]; exact cencode_any Bu Co Ou A' n c' rs HB3.out (by omega) wx h)
    clear d0 d1 d2 d3 d4 hM hz
    go_upto_region 6 with (first
      | (go_at_call 15; ((with_reducible refine CLR.out.mono ?_); rintro e w3 ⟨rfl, b3⟩; have P3 := Lib.hid (P2.out.keep b3); have BL3 := Lib.hid (BL2.out.trans (b3.mono BL2.out.size)); have k3 := P3.out.rd; clear b3))
      | (go_at_call 18; ((with_reducible refine (CE.out _ _ _ (HR.out.below BL3.out)).mono ?_); rintro e w4 ⟨v4, rfl, o4, b4⟩; have P4 := Lib.hid (P3.out.keep b4); obtain ⟨gb, cb, rfl, r4, hgb⟩ := own_rdx o4 HZB.out M HZL.out (by have := HM.out; omega); have O4 := Lib.hid o4; have R4 := Lib.hid r4; have BL4 := Lib.hid (BL3.out.trans (b4.mono BL3.out.size)); have NG := Lib.hid (show gb ≠ b1 from by have := lt_of_block P3.out; omega); clear b4 o4 r4 hgb)))
    clear k2 k3
    have CD4 := Lib.hid (show Calls Try.prog 19 #[.slice (some ⟨gb, 0, none⟩) M cb] w4 (fun e w' => ∃ LA LC, e = .returned (.tuple #[.agg (coC Bu Co Ou (.slice LA n LC)), .int .i64 0]) ∧ w'.ownsRow w4.heap.size 23 9 (.slice LA n LC) n (cells9 rs) ∧ Below w4.heap.size w4 w') from by
      have h := cdec_yes _ M cb z n (by have := HM.out; have := HN8.out; omega) w4 R4.out HD.out.2.2.2.2
      rw [HD.out.1, HD.out.2.1, HD.out.2.2.1, HD.out.2.2.2.1] at h
      exact h)
    go_upto_region 7 with (go_at_call 19; ((with_reducible refine CD4.out.mono ?_); rintro e w5 ⟨LA, LC, rfl, o5, b5⟩; have OR5 := Lib.hid o5; have P5 := Lib.hid (P4.out.keep b5); have R5 := Lib.hid (R4.out.below b5); have O5 := Lib.hid (O4.out.below b5); have BL5 := Lib.hid (BL4.out.trans (b5.mono BL4.out.size)); clear b5 o5))
    obtain ⟨w6, hw6, hbk, hbl, hsz6⟩ := box_new w5 (coC Bu Co Ou (.slice LA n LC)) 29
    change Code.wp _ _ _ _ (w5.alloc (.cells (coC Bu Co Ou (.slice LA n LC)) 29))
    rw [hw6]
    obtain ⟨b8, hb8⟩ : ∃ b8, b8 = w5.heap.size := ⟨_, rfl⟩
    rw [← hb8] at hbk ⊢
    have Q6 := Lib.hid hbk
    have P6 := Lib.hid (P5.out.keep hbl)
    have R6 := Lib.hid (R5.out.below hbl)
    have O6 := Lib.hid (O5.out.below hbl)
    have OR6 := Lib.hid (owns_fr9 OR5.out (F := fun _ => False) (Fr.of_below hbl) (fun _ _ h => h))
    have BL6 := Lib.hid (BL5.out.trans (hbl.mono BL5.out.size))
    have NE := Lib.hid (show b1 < b8 ∧ gb < b8 from by
      have h1 := lt_of_block P5.out
      have h2 := (O5.out.lt gb rfl).2
      omega)
    have RR6 := Lib.hid (show RdRu w6 LA n LC rs from by
      obtain ⟨A', cap', e, h⟩ := ru_at OR6.out (fun r hr => HR.out.ok r hr)
      injection e with e1 e2 e3
      subst e1 e3
      exact h)
    obtain ⟨sb, hsb⟩ : ∃ s, s = strOfNums z := ⟨_, rfl⟩
    have SS := Lib.hid (fun (wx : World) (hx : Below w6.heap.size w6 wx) => show (∀ i, wx.cell? ⟨b1, i, none⟩ = (coC Bu Co Ou (.slice A n c))[i]?) ∧ (∀ i, wx.cell? ⟨b8, i, none⟩ = (coC Bu Co Ou (.slice LA n LC))[i]?) ∧ (convert 33 9 (.slice (some ⟨gb, 0, none⟩) M cb)).run Try.prog wx = .ok (.string sb) wx from by
      refine ⟨(P6.out.keep hx).rd, (Q6.out.keep hx).rd, ?_⟩
      rw [hsb]; exact conv_str (P := Try.prog) (by rfl) (by rfl) (by rfl) (R6.out.below hx))
    have CE2 := Lib.hid (fun (wx : World) (hx : Below w6.heap.size w6 wx) => show Calls Try.prog 18 #[.agg (coC Bu Co Ou (.slice LA n LC))] wx (fun e w' => (∃ g' c', e = .returned (.slice (some ⟨g', 0, none⟩) M c') ∧ (convert 33 9 (.slice (some ⟨g', 0, none⟩) M c')).run Try.prog w' = .ok (.string sb) w') ∧ Below wx.heap.size wx w') from (CE.out LA LC wx (RR6.out.below hx)).mono (fun e w' ⟨v', he, ho, hb⟩ => by
      obtain ⟨g', c', e1, r', _⟩ := own_rdx ho HZB.out M HZL.out (by have := HM.out; omega)
      subst e1
      rw [hsb]
      exact ⟨⟨g', c', he, conv_str (P := Try.prog) (by rfl) (by rfl) (by rfl) r'⟩, hb⟩))
    have e72 : 72 * (n : Int) = ((72 * n : Nat) : Int) := by omega
    have eM : 32 + 72 * (n : Int) = (M : Int) := by have := HM.out; omega
    have eM2 : IntKind.i64.wrap (72 * (n : Int)) = 72 * (n : Int) := by rw [IntKind.wrap_i64]; omega
    have eM3 : IntKind.i64.wrap (M : Int) = (M : Int) := by rw [IntKind.wrap_i64]; have := HM.out; omega
    have hMb : (M : Int) ≤ 608 := by have := HM.out; omega
    have BD := Lib.hid (show Below w6.heap.size w6 w6.drew from below_draws (Below.refl _ _) 1)
    obtain ⟨z1, z2, z3⟩ := SS.out w6.drew BD.out
    clear hw6 hbk hbl hsz6 hb8 hsb e72
    have y0 := And.intro z1 (And.intro z2 z3)
    refine wp_region_held_drew (S := fun w' => (∀ i, w'.cell? ⟨b1, i, none⟩ = (coC Bu Co Ou (.slice A n c))[i]?) ∧ (∀ i, w'.cell? ⟨b8, i, none⟩ = (coC Bu Co Ou (.slice LA n LC))[i]?) ∧ (convert 33 9 (.slice (some ⟨gb, 0, none⟩) M cb)).run Try.prog w' = .ok (.string sb) w') (by kernel_rfl) y0 (fun hHeld => ?_)
    clear y0 z1 z2 z3
    refine wpAnyH_take (i := 0) (oi := ?_) (v := ?_) ?_ ?_ ?_ ?_ ?_ ?_ ?_ ?_
    rotate_left 2
    · simp only [List.getElem?_toArray, List.getElem?_cons_succ, List.getElem?_cons_zero]; rfl
    · kernel_rfl
    · kernel_rfl
    · kernel_rfl
    · exact fun _ _ _ h => h
    · refine Or.inl ⟨by rfl, ?_⟩
      intro w' hSw
      (try dsimp only at hSw)
      go_simp
      all_goals (with_reducible rfl)
    · assumption
    try simp only [Act.put, List.setIfInBounds_toArray, List.set_cons_zero, List.set_cons_succ]
    refine wpAnyH_take (i := 1) (oi := ?_) (v := ?_) ?_ ?_ ?_ ?_ ?_ ?_ ?_ ?_
    rotate_left 2
    · simp only [List.getElem?_toArray, List.getElem?_cons_succ, List.getElem?_cons_zero]; rfl
    · kernel_rfl
    · kernel_rfl
    · kernel_rfl
    · exact fun _ _ _ h => h
    · refine Or.inl ⟨by rfl, ?_⟩
      intro w' hSw
      (try dsimp only at hSw)
      go_simp
      all_goals (with_reducible rfl)
    · assumption
    try simp only [Act.put, List.setIfInBounds_toArray, List.set_cons_zero, List.set_cons_succ]
    refine wpAnyH_take (i := 2) (oi := ?_) (v := ?_) ?_ ?_ ?_ ?_ ?_ ?_ ?_ ?_
    rotate_left 2
    · simp only [List.getElem?_toArray, List.getElem?_cons_succ, List.getElem?_cons_zero]; rfl
    · kernel_rfl
    · kernel_rfl
    · kernel_rfl
    · exact fun _ _ _ h => h
    · refine Or.inl ⟨by rfl, ?_⟩
      intro w' hSw
      (try dsimp only at hSw)
      go_simp
      all_goals (with_reducible rfl)
    · assumption
    try simp only [Act.put, List.setIfInBounds_toArray, List.set_cons_zero, List.set_cons_succ]
    refine wpAnyH_take (i := 3) (oi := ?_) (v := ?_) ?_ ?_ ?_ ?_ ?_ ?_ ?_ ?_
    rotate_left 2
    · simp only [List.getElem?_toArray, List.getElem?_cons_succ, List.getElem?_cons_zero]; rfl
    · kernel_rfl
    · kernel_rfl
    · kernel_rfl
    · exact fun _ _ _ h => h
    · refine Or.inl ⟨by rfl, ?_⟩
      intro w' hSw
      (try dsimp only at hSw)
      go_simp
      all_goals (with_reducible rfl)
    · assumption
    try simp only [Act.put, List.setIfInBounds_toArray, List.set_cons_zero, List.set_cons_succ]
    refine wpAnyH_take (i := 4) (oi := ?_) (v := ?_) ?_ ?_ ?_ ?_ ?_ ?_ ?_ ?_
    rotate_left 2
    · simp only [List.getElem?_toArray, List.getElem?_cons_succ, List.getElem?_cons_zero]; rfl
    · kernel_rfl
    · kernel_rfl
    · kernel_rfl
    · exact fun _ _ _ h => h
    · refine Or.inl ⟨by rfl, ?_⟩
      intro w' hSw
      (try dsimp only at hSw)
      go_simp
      all_goals (with_reducible rfl)
    · assumption
    try simp only [Act.put, List.setIfInBounds_toArray, List.set_cons_zero, List.set_cons_succ]
    refine wpAnyH_take (i := 5) (oi := ?_) (v := ?_) ?_ ?_ ?_ ?_ ?_ ?_ ?_ ?_
    rotate_left 2
    · simp only [List.getElem?_toArray, List.getElem?_cons_succ, List.getElem?_cons_zero]; rfl
    · kernel_rfl
    · kernel_rfl
    · kernel_rfl
    · exact fun _ _ _ h => h
    · refine Or.inl ⟨by rfl, ?_⟩
      intro w' hSw
      (try dsimp only at hSw)
      go_simp
      all_goals (with_reducible rfl)
    · assumption
    try simp only [Act.put, List.setIfInBounds_toArray, List.set_cons_zero, List.set_cons_succ]
    refine wpAnyH_take (i := 6) (oi := ?_) (v := ?_) ?_ ?_ ?_ ?_ ?_ ?_ ?_ ?_
    rotate_left 2
    · simp only [List.getElem?_toArray, List.getElem?_cons_succ, List.getElem?_cons_zero]; rfl
    · kernel_rfl
    · kernel_rfl
    · kernel_rfl
    · exact fun _ _ _ h => h
    · refine Or.inl ⟨by rfl, ?_⟩
      intro w' hSw
      (try dsimp only at hSw)
      go_simp
      all_goals (with_reducible rfl)
    · assumption
    try simp only [Act.put, List.setIfInBounds_toArray, List.set_cons_zero, List.set_cons_succ]
    refine wpAnyH_take (i := 7) (oi := ?_) (v := ?_) ?_ ?_ ?_ ?_ ?_ ?_ ?_ ?_
    rotate_left 2
    · simp only [List.getElem?_toArray, List.getElem?_cons_succ, List.getElem?_cons_zero]; rfl
    · kernel_rfl
    · kernel_rfl
    · kernel_rfl
    · exact fun _ _ _ h => h
    · refine Or.inl ⟨by rfl, ?_⟩
      intro w' hSw
      (try dsimp only at hSw)
      go_simp
      all_goals (with_reducible rfl)
    · assumption
    try simp only [Act.put, List.setIfInBounds_toArray, List.set_cons_zero, List.set_cons_succ]
    refine wpAnyH_take (i := 8) (oi := ?_) (v := ?_) ?_ ?_ ?_ ?_ ?_ ?_ ?_ ?_
    rotate_left 2
    · simp only [List.getElem?_toArray, List.getElem?_cons_succ, List.getElem?_cons_zero]; rfl
    · kernel_rfl
    · kernel_rfl
    · kernel_rfl
    · exact fun _ _ _ h => h
    · refine Or.inl ⟨by rfl, ?_⟩
      intro w' hSw
      (try dsimp only at hSw)
      go_simp
      all_goals (with_reducible rfl)
    · assumption
    try simp only [Act.put, List.setIfInBounds_toArray, List.set_cons_zero, List.set_cons_succ]
    refine wpAnyH_take (i := 9) (oi := ?_) (v := ?_) ?_ ?_ ?_ ?_ ?_ ?_ ?_ ?_
    rotate_left 2
    · simp only [List.getElem?_toArray, List.getElem?_cons_succ, List.getElem?_cons_zero]; rfl
    · kernel_rfl
    · kernel_rfl
    · kernel_rfl
    · exact fun _ _ _ h => h
    · refine Or.inl ⟨by rfl, ?_⟩
      intro w' hSw
      (try dsimp only at hSw)
      go_simp
      all_goals (with_reducible rfl)
    · assumption
    try simp only [Act.put, List.setIfInBounds_toArray, List.set_cons_zero, List.set_cons_succ]
    refine wpAnyH_take (i := 10) (oi := ?_) (v := ?_) ?_ ?_ ?_ ?_ ?_ ?_ ?_ ?_
    rotate_left 2
    · simp only [List.getElem?_toArray, List.getElem?_cons_succ, List.getElem?_cons_zero]; rfl
    · kernel_rfl
    · kernel_rfl
    · kernel_rfl
    · exact fun _ _ _ h => h
    · refine Or.inl ⟨by rfl, ?_⟩
      intro w' hSw
      (try dsimp only at hSw)
      go_simp
      all_goals (with_reducible rfl)
    · assumption
    try simp only [Act.put, List.setIfInBounds_toArray, List.set_cons_zero, List.set_cons_succ]
    refine wpAnyH_take (i := 11) (oi := ?_) (v := ?_) ?_ ?_ ?_ ?_ ?_ ?_ ?_ ?_
    rotate_left 2
    · simp only [List.getElem?_toArray, List.getElem?_cons_succ, List.getElem?_cons_zero]; rfl
    · kernel_rfl
    · kernel_rfl
    · kernel_rfl
    · exact fun _ _ _ h => h
    · refine Or.inl ⟨by rfl, ?_⟩
      intro w' hSw
      (try dsimp only at hSw)
      go_simp
      all_goals (with_reducible rfl)
    · assumption
    try simp only [Act.put, List.setIfInBounds_toArray, List.set_cons_zero, List.set_cons_succ]
    refine wpAnyH_take (i := 12) (oi := ?_) (v := ?_) ?_ ?_ ?_ ?_ ?_ ?_ ?_ ?_
    rotate_left 2
    · simp only [List.getElem?_toArray, List.getElem?_cons_succ, List.getElem?_cons_zero]; rfl
    · kernel_rfl
    · kernel_rfl
    · kernel_rfl
    · exact fun _ _ _ h => h
    · refine Or.inl ⟨by rfl, ?_⟩
      intro w' hSw
      (try dsimp only at hSw)
      go_simp
      all_goals (with_reducible rfl)
    · assumption
    try simp only [Act.put, List.setIfInBounds_toArray, List.set_cons_zero, List.set_cons_succ]
    refine wpAnyH_take (i := 13) (oi := ?_) (v := ?_) ?_ ?_ ?_ ?_ ?_ ?_ ?_ ?_
    rotate_left 2
    · simp only [List.getElem?_toArray, List.getElem?_cons_succ, List.getElem?_cons_zero]; rfl
    · kernel_rfl
    · kernel_rfl
    · kernel_rfl
    · exact fun _ _ _ h => h
    · refine Or.inl ⟨by rfl, ?_⟩
      intro w' hSw
      (try dsimp only at hSw)
      go_simp
      all_goals (with_reducible rfl)
    · assumption
    try simp only [Act.put, List.setIfInBounds_toArray, List.set_cons_zero, List.set_cons_succ]
    refine wpAnyH_take (i := 16) (oi := ?_) (v := ?_) ?_ ?_ ?_ ?_ ?_ ?_ ?_ ?_
    rotate_left 2
    · simp only [List.getElem?_toArray, List.getElem?_cons_succ, List.getElem?_cons_zero]; rfl
    · kernel_rfl
    · kernel_rfl
    · kernel_rfl
    · exact fun _ _ _ h => h
    · refine Or.inl ⟨by rfl, ?_⟩
      intro w' hSw
      (try dsimp only at hSw)
      go_simp
      all_goals (with_reducible rfl)
    · assumption
    try simp only [Act.put, List.setIfInBounds_toArray, List.set_cons_zero, List.set_cons_succ]
    refine wpAnyH_take (i := 17) (oi := ?_) (v := ?_) ?_ ?_ ?_ ?_ ?_ ?_ ?_ ?_
    rotate_left 2
    · simp only [List.getElem?_toArray, List.getElem?_cons_succ, List.getElem?_cons_zero]; rfl
    · kernel_rfl
    · kernel_rfl
    · kernel_rfl
    · exact fun _ _ _ h => h
    · refine Or.inl ⟨by rfl, ?_⟩
      intro w' hSw
      (try dsimp only at hSw)
      go_simp
      all_goals (with_reducible rfl)
    · assumption
    try simp only [Act.put, List.setIfInBounds_toArray, List.set_cons_zero, List.set_cons_succ]
    refine wpAnyH_ready (rs := [14]) (by kernel_rfl) (by simp) ?_
    refine AllReadyH.cons (o := ?_) ?_ ?_ ?_
    rotate_left 1
    · simp only [List.getElem?_toArray, List.getElem?_cons_succ, List.getElem?_cons_zero]; rfl
    rotate_left 1
    · exact AllReadyH.nil
    intro K hK
    go_simp
    ((with_reducible refine (CE2.out _ BD.out).mono ?_); rintro e wb ⟨⟨g', c', rfl, hcv⟩, bb⟩; have BN := Lib.hid (BD.out.trans (bb.mono BD.out.size)); clear bb)
    refine hK.out _ _ (SS.out _ BN.out) (fun hHeld => ?_)
    clear hK K
    try simp only [Act.put, List.setIfInBounds_toArray, List.set_cons_zero, List.set_cons_succ]
    refine wpAnyH_ready (rs := [15]) (by kernel_rfl) (by simp) ?_
    refine AllReadyH.cons (o := ?_) ?_ ?_ ?_
    rotate_left 1
    · simp only [List.getElem?_toArray, List.getElem?_cons_succ, List.getElem?_cons_zero]; rfl
    rotate_left 1
    · exact AllReadyH.nil
    intro K hK
    go_simp
    skip
    refine hK.out _ _ (SS.out _ BN.out) (fun hHeld => ?_)
    clear hK K
    try simp only [Act.put, List.setIfInBounds_toArray, List.set_cons_zero, List.set_cons_succ]
    refine wpAnyH_take (i := 18) (oi := ?_) (v := ?_) ?_ ?_ ?_ ?_ ?_ ?_ ?_ ?_
    rotate_left 2
    · simp only [List.getElem?_toArray, List.getElem?_cons_succ, List.getElem?_cons_zero]; rfl
    · kernel_rfl
    · kernel_rfl
    · kernel_rfl
    · exact fun _ _ _ h => h
    · refine Or.inl ⟨by rfl, ?_⟩
      intro w' hSw
      (try dsimp only at hSw)
      go_simp
      all_goals (with_reducible rfl)
    · assumption
    try simp only [Act.put, List.setIfInBounds_toArray, List.set_cons_zero, List.set_cons_succ]
    refine wpAnyH_take (i := 19) (oi := ?_) (v := ?_) ?_ ?_ ?_ ?_ ?_ ?_ ?_ ?_
    rotate_left 2
    · simp only [List.getElem?_toArray, List.getElem?_cons_succ, List.getElem?_cons_zero]; rfl
    · kernel_rfl
    · kernel_rfl
    · kernel_rfl
    · exact fun _ _ _ h => h
    · refine Or.inl ⟨by rfl, ?_⟩
      intro w' hSw
      (try dsimp only at hSw)
      go_simp
      all_goals (with_reducible rfl)
    · assumption
    try simp only [Act.put, List.setIfInBounds_toArray, List.set_cons_zero, List.set_cons_succ]
    refine wpAnyH_take (i := 20) (oi := ?_) (v := ?_) ?_ ?_ ?_ ?_ ?_ ?_ ?_ ?_
    rotate_left 2
    · simp only [List.getElem?_toArray, List.getElem?_cons_succ, List.getElem?_cons_zero]; rfl
    · kernel_rfl
    · kernel_rfl
    · kernel_rfl
    · exact fun _ _ _ h => h
    · refine Or.inl ⟨by rfl, ?_⟩
      intro w' hSw
      (try dsimp only at hSw)
      go_simp
      all_goals (with_reducible rfl)
    · assumption
    try simp only [Act.put, List.setIfInBounds_toArray, List.set_cons_zero, List.set_cons_succ]
    refine wpAnyH_take (i := 21) (oi := ?_) (v := ?_) ?_ ?_ ?_ ?_ ?_ ?_ ?_ ?_
    rotate_left 2
    · simp only [List.getElem?_toArray, List.getElem?_cons_succ, List.getElem?_cons_zero]; rfl
    · kernel_rfl
    · kernel_rfl
    · kernel_rfl
    · exact fun _ _ _ h => h
    · refine Or.inl ⟨by rfl, ?_⟩
      intro w' hSw
      (try dsimp only at hSw)
      go_simp
      all_goals (with_reducible rfl)
    · assumption
    try simp only [Act.put, List.setIfInBounds_toArray, List.set_cons_zero, List.set_cons_succ]
    refine wpAnyH_take (i := 22) (oi := ?_) (v := ?_) ?_ ?_ ?_ ?_ ?_ ?_ ?_ ?_
    rotate_left 2
    · simp only [List.getElem?_toArray, List.getElem?_cons_succ, List.getElem?_cons_zero]; rfl
    · kernel_rfl
    · kernel_rfl
    · kernel_rfl
    · exact fun _ _ _ h => h
    · refine Or.inl ⟨by rfl, ?_⟩
      intro w' hSw
      (try dsimp only at hSw)
      go_simp
      all_goals (with_reducible rfl)
    · assumption
    try simp only [Act.put, List.setIfInBounds_toArray, List.set_cons_zero, List.set_cons_succ]
    refine wpAnyH_take (i := 23) (oi := ?_) (v := ?_) ?_ ?_ ?_ ?_ ?_ ?_ ?_ ?_
    rotate_left 2
    · simp only [List.getElem?_toArray, List.getElem?_cons_succ, List.getElem?_cons_zero]; rfl
    · kernel_rfl
    · kernel_rfl
    · kernel_rfl
    · exact fun _ _ _ h => h
    · refine Or.inl ⟨by rfl, ?_⟩
      intro w' hSw
      (try dsimp only at hSw)
      go_simp
      all_goals (with_reducible rfl)
    · assumption
    try simp only [Act.put, List.setIfInBounds_toArray, List.set_cons_zero, List.set_cons_succ]
    refine wpAnyH_take (i := 24) (oi := ?_) (v := ?_) ?_ ?_ ?_ ?_ ?_ ?_ ?_ ?_
    rotate_left 2
    · simp only [List.getElem?_toArray, List.getElem?_cons_succ, List.getElem?_cons_zero]; rfl
    · kernel_rfl
    · kernel_rfl
    · kernel_rfl
    · exact fun _ _ _ h => h
    · refine Or.inl ⟨by rfl, ?_⟩
      intro w' hSw
      (try dsimp only at hSw)
      go_simp
      all_goals (with_reducible rfl)
    · assumption
    try simp only [Act.put, List.setIfInBounds_toArray, List.set_cons_zero, List.set_cons_succ]
    refine wpAnyH_take (i := 25) (oi := ?_) (v := ?_) ?_ ?_ ?_ ?_ ?_ ?_ ?_ ?_
    rotate_left 2
    · simp only [List.getElem?_toArray, List.getElem?_cons_succ, List.getElem?_cons_zero]; rfl
    · kernel_rfl
    · kernel_rfl
    · kernel_rfl
    · exact fun _ _ _ h => h
    · refine Or.inl ⟨by rfl, ?_⟩
      intro w' hSw
      (try dsimp only at hSw)
      go_simp
      all_goals (with_reducible rfl)
    · assumption
    try simp only [Act.put, List.setIfInBounds_toArray, List.set_cons_zero, List.set_cons_succ]
    refine wpAnyH_take (i := 26) (oi := ?_) (v := ?_) ?_ ?_ ?_ ?_ ?_ ?_ ?_ ?_
    rotate_left 2
    · simp only [List.getElem?_toArray, List.getElem?_cons_succ, List.getElem?_cons_zero]; rfl
    · kernel_rfl
    · kernel_rfl
    · kernel_rfl
    · exact fun _ _ _ h => h
    · refine Or.inl ⟨by rfl, ?_⟩
      intro w' hSw
      (try dsimp only at hSw)
      go_simp
      all_goals (with_reducible rfl)
    · assumption
    try simp only [Act.put, List.setIfInBounds_toArray, List.set_cons_zero, List.set_cons_succ]
    refine wpAnyH_take (i := 27) (oi := ?_) (v := ?_) ?_ ?_ ?_ ?_ ?_ ?_ ?_ ?_
    rotate_left 2
    · simp only [List.getElem?_toArray, List.getElem?_cons_succ, List.getElem?_cons_zero]; rfl
    · kernel_rfl
    · kernel_rfl
    · kernel_rfl
    · exact fun _ _ _ h => h
    · refine Or.inl ⟨by rfl, ?_⟩
      intro w' hSw
      (try dsimp only at hSw)
      go_simp
      all_goals (with_reducible rfl)
    · assumption
    try simp only [Act.put, List.setIfInBounds_toArray, List.set_cons_zero, List.set_cons_succ]
    refine wpAnyH_take (i := 28) (oi := ?_) (v := ?_) ?_ ?_ ?_ ?_ ?_ ?_ ?_ ?_
    rotate_left 2
    · simp only [List.getElem?_toArray, List.getElem?_cons_succ, List.getElem?_cons_zero]; rfl
    · kernel_rfl
    · kernel_rfl
    · kernel_rfl
    · exact fun _ _ _ h => h
    · refine Or.inl ⟨by rfl, ?_⟩
      intro w' hSw
      (try dsimp only at hSw)
      go_simp
      all_goals (with_reducible rfl)
    · assumption
    try simp only [Act.put, List.setIfInBounds_toArray, List.set_cons_zero, List.set_cons_succ]
    refine wpAnyH_take (i := 29) (oi := ?_) (v := ?_) ?_ ?_ ?_ ?_ ?_ ?_ ?_ ?_
    rotate_left 2
    · simp only [List.getElem?_toArray, List.getElem?_cons_succ, List.getElem?_cons_zero]; rfl
    · kernel_rfl
    · kernel_rfl
    · kernel_rfl
    · exact fun _ _ _ h => h
    · refine Or.inl ⟨by rfl, ?_⟩
      intro w' hSw
      (try dsimp only at hSw)
      go_simp
      all_goals (with_reducible rfl)
    · assumption
    try simp only [Act.put, List.setIfInBounds_toArray, List.set_cons_zero, List.set_cons_succ]
    refine wpAnyH_take (i := 30) (oi := ?_) (v := ?_) ?_ ?_ ?_ ?_ ?_ ?_ ?_ ?_
    rotate_left 2
    · simp only [List.getElem?_toArray, List.getElem?_cons_succ, List.getElem?_cons_zero]; rfl
    · kernel_rfl
    · kernel_rfl
    · kernel_rfl
    · exact fun _ _ _ h => h
    · refine Or.inl ⟨by rfl, ?_⟩
      intro w' hSw
      (try dsimp only at hSw)
      go_simp
      all_goals (with_reducible rfl)
    · assumption
    try simp only [Act.put, List.setIfInBounds_toArray, List.set_cons_zero, List.set_cons_succ]
    refine wpAnyH_take (i := 31) (oi := ?_) (v := ?_) ?_ ?_ ?_ ?_ ?_ ?_ ?_ ?_
    rotate_left 2
    · simp only [List.getElem?_toArray, List.getElem?_cons_succ, List.getElem?_cons_zero]; rfl
    · kernel_rfl
    · kernel_rfl
    · kernel_rfl
    · exact fun _ _ _ h => h
    · refine Or.inl ⟨by rfl, ?_⟩
      intro w' hSw
      (try dsimp only at hSw)
      go_simp
      all_goals (with_reducible rfl)
    · assumption
    try simp only [Act.put, List.setIfInBounds_toArray, List.set_cons_zero, List.set_cons_succ]
    refine wpAnyH_take (i := 32) (oi := ?_) (v := ?_) ?_ ?_ ?_ ?_ ?_ ?_ ?_ ?_
    rotate_left 2
    · simp only [List.getElem?_toArray, List.getElem?_cons_succ, List.getElem?_cons_zero]; rfl
    · kernel_rfl
    · kernel_rfl
    · kernel_rfl
    · exact fun _ _ _ h => h
    · refine Or.inl ⟨by rfl, ?_⟩
      intro w' hSw
      (try dsimp only at hSw)
      go_simp
      all_goals (with_reducible rfl)
    · assumption
    try simp only [Act.put, List.setIfInBounds_toArray, List.set_cons_zero, List.set_cons_succ]
    refine wpAnyH_take (i := 33) (oi := ?_) (v := ?_) ?_ ?_ ?_ ?_ ?_ ?_ ?_ ?_
    rotate_left 2
    · simp only [List.getElem?_toArray, List.getElem?_cons_succ, List.getElem?_cons_zero]; rfl
    · kernel_rfl
    · kernel_rfl
    · kernel_rfl
    · exact fun _ _ _ h => h
    · refine Or.inl ⟨by rfl, ?_⟩
      intro w' hSw
      (try dsimp only at hSw)
      go_simp
      all_goals (with_reducible rfl)
    · assumption
    try simp only [Act.put, List.setIfInBounds_toArray, List.set_cons_zero, List.set_cons_succ]
    refine wpAnyH_take (i := 34) (oi := ?_) (v := ?_) ?_ ?_ ?_ ?_ ?_ ?_ ?_ ?_
    rotate_left 2
    · simp only [List.getElem?_toArray, List.getElem?_cons_succ, List.getElem?_cons_zero]; rfl
    · kernel_rfl
    · kernel_rfl
    · kernel_rfl
    · exact fun _ _ _ h => h
    · refine Or.inl ⟨by rfl, ?_⟩
      intro w' hSw
      (try dsimp only at hSw)
      go_simp
      all_goals (with_reducible rfl)
    · assumption
    try simp only [Act.put, List.setIfInBounds_toArray, List.set_cons_zero, List.set_cons_succ]
    refine wpAnyH_take (i := 35) (oi := ?_) (v := ?_) ?_ ?_ ?_ ?_ ?_ ?_ ?_ ?_
    rotate_left 2
    · simp only [List.getElem?_toArray, List.getElem?_cons_succ, List.getElem?_cons_zero]; rfl
    · kernel_rfl
    · kernel_rfl
    · kernel_rfl
    · exact fun _ _ _ h => h
    · refine Or.inl ⟨by rfl, ?_⟩
      intro w' hSw
      (try dsimp only at hSw)
      go_simp
      all_goals (with_reducible rfl)
    · assumption
    try simp only [Act.put, List.setIfInBounds_toArray, List.set_cons_zero, List.set_cons_succ]
    refine wpAnyH_take (i := 36) (oi := ?_) (v := ?_) ?_ ?_ ?_ ?_ ?_ ?_ ?_ ?_
    rotate_left 2
    · simp only [List.getElem?_toArray, List.getElem?_cons_succ, List.getElem?_cons_zero]; rfl
    · kernel_rfl
    · kernel_rfl
    · kernel_rfl
    · exact fun _ _ _ h => h
    · refine Or.inl ⟨by rfl, ?_⟩
      intro w' hSw
      (try dsimp only at hSw)
      go_simp
      all_goals (with_reducible rfl)
    · assumption
    try simp only [Act.put, List.setIfInBounds_toArray, List.set_cons_zero, List.set_cons_succ]
    refine wpAnyH_take (i := 37) (oi := ?_) (v := ?_) ?_ ?_ ?_ ?_ ?_ ?_ ?_ ?_
    rotate_left 2
    · simp only [List.getElem?_toArray, List.getElem?_cons_succ, List.getElem?_cons_zero]; rfl
    · kernel_rfl
    · kernel_rfl
    · kernel_rfl
    · exact fun _ _ _ h => h
    · refine Or.inl ⟨by rfl, ?_⟩
      intro w' hSw
      (try dsimp only at hSw)
      go_simp
      all_goals (with_reducible rfl)
    · assumption
    try simp only [Act.put, List.setIfInBounds_toArray, List.set_cons_zero, List.set_cons_succ]
    refine wpAnyH_take (i := 38) (oi := ?_) (v := ?_) ?_ ?_ ?_ ?_ ?_ ?_ ?_ ?_
    rotate_left 2
    · simp only [List.getElem?_toArray, List.getElem?_cons_succ, List.getElem?_cons_zero]; rfl
    · kernel_rfl
    · kernel_rfl
    · kernel_rfl
    · exact fun _ _ _ h => h
    · refine Or.inl ⟨by rfl, ?_⟩
      intro w' hSw
      (try dsimp only at hSw)
      go_simp
      all_goals (with_reducible rfl)
    · assumption
    try simp only [Act.put, List.setIfInBounds_toArray, List.set_cons_zero, List.set_cons_succ]
    refine wpAnyH_take (i := 39) (oi := ?_) (v := ?_) ?_ ?_ ?_ ?_ ?_ ?_ ?_ ?_
    rotate_left 2
    · simp only [List.getElem?_toArray, List.getElem?_cons_succ, List.getElem?_cons_zero]; rfl
    · kernel_rfl
    · kernel_rfl
    · kernel_rfl
    · exact fun _ _ _ h => h
    · refine Or.inl ⟨by rfl, ?_⟩
      intro w' hSw
      (try dsimp only at hSw)
      go_simp
      all_goals (with_reducible rfl)
    · assumption
    try simp only [Act.put, List.setIfInBounds_toArray, List.set_cons_zero, List.set_cons_succ]
    refine wpAnyH_take (i := 40) (oi := ?_) (v := ?_) ?_ ?_ ?_ ?_ ?_ ?_ ?_ ?_
    rotate_left 2
    · simp only [List.getElem?_toArray, List.getElem?_cons_succ, List.getElem?_cons_zero]; rfl
    · kernel_rfl
    · kernel_rfl
    · kernel_rfl
    · exact fun _ _ _ h => h
    · refine Or.inl ⟨by rfl, ?_⟩
      intro w' hSw
      (try dsimp only at hSw)
      go_simp
      all_goals (with_reducible rfl)
    · assumption
    try simp only [Act.put, List.setIfInBounds_toArray, List.set_cons_zero, List.set_cons_succ]
    refine wpAnyH_take (i := 41) (oi := ?_) (v := ?_) ?_ ?_ ?_ ?_ ?_ ?_ ?_ ?_
    rotate_left 2
    · simp only [List.getElem?_toArray, List.getElem?_cons_succ, List.getElem?_cons_zero]; rfl
    · kernel_rfl
    · kernel_rfl
    · kernel_rfl
    · exact fun _ _ _ h => h
    · refine Or.inl ⟨by rfl, ?_⟩
      intro w' hSw
      (try dsimp only at hSw)
      go_simp
      all_goals (with_reducible rfl)
    · assumption
    try simp only [Act.put, List.setIfInBounds_toArray, List.set_cons_zero, List.set_cons_succ]
    refine wpAnyH_take (i := 42) (oi := ?_) (v := ?_) ?_ ?_ ?_ ?_ ?_ ?_ ?_ ?_
    rotate_left 2
    · simp only [List.getElem?_toArray, List.getElem?_cons_succ, List.getElem?_cons_zero]; rfl
    · kernel_rfl
    · kernel_rfl
    · kernel_rfl
    · exact fun _ _ _ h => h
    · refine Or.inl ⟨by rfl, ?_⟩
      intro w' hSw
      (try dsimp only at hSw)
      go_simp
      all_goals (with_reducible rfl)
    · assumption
    try simp only [Act.put, List.setIfInBounds_toArray, List.set_cons_zero, List.set_cons_succ]
    refine wpAnyH_take (i := 43) (oi := ?_) (v := ?_) ?_ ?_ ?_ ?_ ?_ ?_ ?_ ?_
    rotate_left 2
    · simp only [List.getElem?_toArray, List.getElem?_cons_succ, List.getElem?_cons_zero]; rfl
    · kernel_rfl
    · kernel_rfl
    · kernel_rfl
    · exact fun _ _ _ h => h
    · refine Or.inl ⟨by rfl, ?_⟩
      intro w' hSw
      (try dsimp only at hSw)
      go_simp
      all_goals (with_reducible rfl)
    · assumption
    try simp only [Act.put, List.setIfInBounds_toArray, List.set_cons_zero, List.set_cons_succ]
    refine wpAnyH_take (i := 44) (oi := ?_) (v := ?_) ?_ ?_ ?_ ?_ ?_ ?_ ?_ ?_
    rotate_left 2
    · simp only [List.getElem?_toArray, List.getElem?_cons_succ, List.getElem?_cons_zero]; rfl
    · kernel_rfl
    · kernel_rfl
    · kernel_rfl
    · exact fun _ _ _ h => h
    · refine Or.inl ⟨by rfl, ?_⟩
      intro w' hSw
      (try dsimp only at hSw)
      go_simp
      all_goals (with_reducible rfl)
    · assumption
    try simp only [Act.put, List.setIfInBounds_toArray, List.set_cons_zero, List.set_cons_succ]
    refine wpAnyH_take (i := 45) (oi := ?_) (v := ?_) ?_ ?_ ?_ ?_ ?_ ?_ ?_ ?_
    rotate_left 2
    · simp only [List.getElem?_toArray, List.getElem?_cons_succ, List.getElem?_cons_zero]; rfl
    · kernel_rfl
    · kernel_rfl
    · kernel_rfl
    · exact fun _ _ _ h => h
    · refine Or.inl ⟨by rfl, ?_⟩
      intro w' hSw
      (try dsimp only at hSw)
      go_simp
      all_goals (with_reducible rfl)
    · assumption
    try simp only [Act.put, List.setIfInBounds_toArray, List.set_cons_zero, List.set_cons_succ]
    refine wpAnyH_take (i := 46) (oi := ?_) (v := ?_) ?_ ?_ ?_ ?_ ?_ ?_ ?_ ?_
    rotate_left 2
    · simp only [List.getElem?_toArray, List.getElem?_cons_succ, List.getElem?_cons_zero]; rfl
    · kernel_rfl
    · kernel_rfl
    · kernel_rfl
    · exact fun _ _ _ h => h
    · refine Or.inl ⟨by rfl, ?_⟩
      intro w' hSw
      (try dsimp only at hSw)
      go_simp
      all_goals (with_reducible rfl)
    · assumption
    try simp only [Act.put, List.setIfInBounds_toArray, List.set_cons_zero, List.set_cons_succ]
    refine wpAnyH_take (i := 47) (oi := ?_) (v := ?_) ?_ ?_ ?_ ?_ ?_ ?_ ?_ ?_
    rotate_left 2
    · simp only [List.getElem?_toArray, List.getElem?_cons_succ, List.getElem?_cons_zero]; rfl
    · kernel_rfl
    · kernel_rfl
    · kernel_rfl
    · exact fun _ _ _ h => h
    · refine Or.inl ⟨by rfl, ?_⟩
      intro w' hSw
      (try dsimp only at hSw)
      go_simp
      all_goals (with_reducible rfl)
    · assumption
    try simp only [Act.put, List.setIfInBounds_toArray, List.set_cons_zero, List.set_cons_succ]
    refine wpAnyH_take (i := 48) (oi := ?_) (v := ?_) ?_ ?_ ?_ ?_ ?_ ?_ ?_ ?_
    rotate_left 2
    · simp only [List.getElem?_toArray, List.getElem?_cons_succ, List.getElem?_cons_zero]; rfl
    · kernel_rfl
    · kernel_rfl
    · kernel_rfl
    · exact fun _ _ _ h => h
    · refine Or.inl ⟨by rfl, ?_⟩
      intro w' hSw
      (try dsimp only at hSw)
      go_simp
      all_goals (with_reducible rfl)
    · assumption
    try simp only [Act.put, List.setIfInBounds_toArray, List.set_cons_zero, List.set_cons_succ]
    refine wpAnyH_take (i := 49) (oi := ?_) (v := ?_) ?_ ?_ ?_ ?_ ?_ ?_ ?_ ?_
    rotate_left 2
    · simp only [List.getElem?_toArray, List.getElem?_cons_succ, List.getElem?_cons_zero]; rfl
    · kernel_rfl
    · kernel_rfl
    · kernel_rfl
    · exact fun _ _ _ h => h
    · refine Or.inl ⟨by rfl, ?_⟩
      intro w' hSw
      (try dsimp only at hSw)
      go_simp
      all_goals (with_reducible rfl)
    · assumption
    try simp only [Act.put, List.setIfInBounds_toArray, List.set_cons_zero, List.set_cons_succ]
    refine wpAnyH_done (by kernel_rfl) ?_ _
    clear hHeld hcv
    obtain ⟨w7, hw7⟩ : ∃ w7 : World, w7 = wb := ⟨_, rfl⟩
    rw [← hw7] at BN ⊢
    have P7 := Lib.hid (P6.out.keep BN.out)
    have Q7 := Lib.hid (Q6.out.keep BN.out)
    have R7 := Lib.hid (R6.out.below BN.out)
    have O7 := Lib.hid (O6.out.below BN.out)
    have RR7 := Lib.hid (RR6.out.below BN.out)
    have BL7 := Lib.hid (BL6.out.trans (BN.out.mono BL6.out.size))
    have RC7 := Lib.hid (HR.out.below BL7.out)
    have hlen := HLEN.out
    clear hw7
    have kp := P7.out.rd
    go_upto_region 10 with (fail)
    clear kp
    go_loopg [87] n (fun k s87 wr => ∃ i : Nat, i ≤ n ∧ k = n - i ∧ s87 = .int .i64 (i : Int) ∧ Below w7.heap.size w7 wr)
    case atStart => exact ⟨0, by omega, by omega, rfl, Below.refl _ _⟩
    case round =>
      obtain ⟨i, hi, hkk, rfl, hb⟩ := hrel
      have HK := Lib.hid hkk
      have HB := Lib.hid hb
      clear hkk hb
      by_cases hin : i < n
      · have hir : i < rs.length := by omega
        obtain ⟨g1, f1, e1, hlt1, hc1⟩ := (RC7.out.below HB.out).at_ (by omega)
        obtain ⟨g2, f2, e2, hlt2, hc2⟩ := (RR7.out.below HB.out).at_ (by omega)
        subst e1 e2
        have x0 := hc1 i hir 0 (by omega)
        have x1 := hc1 i hir 1 (by omega)
        have x2 := hc1 i hir 2 (by omega)
        have x3 := hc1 i hir 3 (by omega)
        have x4 := hc1 i hir 4 (by omega)
        have x5 := hc1 i hir 5 (by omega)
        have x6 := hc1 i hir 6 (by omega)
        have x7 := hc1 i hir 7 (by omega)
        have x8 := hc1 i hir 8 (by omega)
        have y0 := hc2 i hir 0 (by omega)
        have y1 := hc2 i hir 1 (by omega)
        have y2 := hc2 i hir 2 (by omega)
        have y3 := hc2 i hir 3 (by omega)
        have y4 := hc2 i hir 4 (by omega)
        have y5 := hc2 i hir 5 (by omega)
        have y6 := hc2 i hir 6 (by omega)
        have y7 := hc2 i hir 7 (by omega)
        have y8 := hc2 i hir 8 (by omega)
        obtain ⟨r, hrr⟩ : ∃ r, r = rs[i] := ⟨_, rfl⟩
        rw [← hrr] at x0 x1 x2 x3 x4 x5 x6 x7 x8 y0 y1 y2 y3 y4 y5 y6 y7 y8
        obtain ⟨L, W, Bb, Sl, Ce, Ro, Wi, Tr, sm⟩ := r
        simp [RuZ.c] at x0 x1 x2 x3 x4 x5 x6 x7 x8 y0 y1 y2 y3 y4 y5 y6 y7 y8
        have heq : ∀ w, (Op.equalIn 10000 23 (.agg (ruC L W Bb Sl Ce Ro Wi Tr sm)) (.agg (ruC L W Bb Sl Ce Ro Wi Tr sm))).run Try.prog w = .ok true w := fun w => by rw [rule_equal]; simp
        have kp := (P7.out.keep HB.out).rd
        have kq := (Q7.out.keep HB.out).rd
        clear hc1 hc2 hlt1 hlt2 hrr hir hlen
        go_upto_region 12 with (fail)
        go_quiet (fail)
        clear x0 x1 x2 x3 x4 x5 x6 x7 x8 y0 y1 y2 y3 y4 y5 y6 y7 y8 kp kq
        go_wp2
        go_roundg (n - (i + 1))
        case measure => have := HK.out; omega
        case rel => exact ⟨i + 1, by omega, by omega, by go_num, below_draws HB.out _⟩
      · have hie : n = i := by omega
        subst hie
        obtain ⟨w8, hw8⟩ : ∃ w8 : World, w8 = wr := ⟨_, rfl⟩
        rw [← hw8] at HB ⊢
        have P8 := Lib.hid (P7.out.keep HB.out)
        have Q8 := Lib.hid (Q7.out.keep HB.out)
        have R8 := Lib.hid (R7.out.below HB.out)
        have O8 := Lib.hid (O7.out.below HB.out)
        have BL8 := Lib.hid (BL7.out.trans (HB.out.mono BL7.out.size))
        clear hw8 hlen
        obtain ⟨K, hK⟩ : ∃ K : Nat, K = M - 1 := ⟨_, rfl⟩
        have eK : (M : Int) - 1 = (K : Int) := by have := HM.out; omega
        obtain ⟨A9, hsl, hr9⟩ := slice_head R8.out (show K ≤ M by omega)
        have CDA := Lib.hid (cdec_no A9 K cb (z.take K) (by have := HM.out; have := HN8.out; omega) w8 hr9 (fun k h => by
          have h1 := h.2.2.1
          have h2 := HZL.out
          have h3 := HM.out
          have h4 := HN8.out
          rw [List.length_take] at h1
          omega))
        clear hr9 hK
        go_upto_region 16 with (go_at_call 19; ((with_reducible refine CDA.out.mono ?_); rintro e w9 ⟨rfl, b9⟩; have Q9 := Lib.hid (Q8.out.keep b9); have R9 := Lib.hid (R8.out.below b9); have O9 := Lib.hid (O8.out.below b9); have BL9 := Lib.hid (BL8.out.trans (b9.mono BL8.out.size)); clear b9))
        obtain ⟨wA, hwA, hbk, hbl, hszA⟩ := box_new w9 (coC 0 0 0 (.slice none 0 0)) 29
        change Code.wp _ _ _ _ (w9.alloc (.cells (coC 0 0 0 (.slice none 0 0)) 29))
        rw [hwA]
        have QA := Lib.hid (Q9.out.keep hbl)
        have RA := Lib.hid (R9.out.below hbl)
        have OA := Lib.hid (O9.out.below hbl)
        have BLA := Lib.hid (BL9.out.trans (hbl.mono BL9.out.size))
        clear hwA hbk hbl hszA
        obtain ⟨M1, hM1⟩ : ∃ M1, M1 = M + 1 := ⟨_, rfl⟩
        have HM1 := Lib.hid hM1
        have HBZ0 := Lib.hid (show ∀ y ∈ ([] ++ z) ++ [0], 0 ≤ y ∧ y ≤ 255 from fun y hy => by
          rw [List.nil_append] at hy
          rcases List.mem_append.1 hy with h | h
          · exact HZB.out y h
          · have e : y = 0 := by simpa using h
            omega)
        have HLZ0 := Lib.hid (show (([] ++ z) ++ [0]).length = M1 from by rw [List.nil_append, List.length_append, HZL.out, hM1]; rfl)
        have CDB := Lib.hid (fun (A' : Option Addr) (c' : Nat) (wx : World) (h : RdI wx .u8 A' M1 c' (([] ++ z) ++ [0])) => cdec_no A' M1 c' _ (by have := HM.out; have := HN8.out; omega) wx h (fun k h => by
          have h1 := h.2.2.1
          have h2 := HLZ0.out
          have h3 := HM.out
          have h4 := HN8.out
          have h5 := HM1.out
          omega))
        clear hM1
        go_upto_region 17 with (first
          | (at_builtin; refine wpList_appI (by rfl) _ _ cb (by rfl) (by rfl) (by rfl) (own_nil _ wA.heap.size) RA.out (by have := HM.out; have := HN8.out; simp; omega) (Nat.le_refl _) ?_; intro v4 wB o4 g4; have OB := Lib.hid o4; have FB := Lib.hid (show Below wA.heap.size wA wB from (fr_row g4).below (Nat.le_refl _) (fun g hg => by cases hg)); clear o4 g4)
          | (at_builtin; refine wpList_appI (by rfl) _ _ 1 (by rfl) (by rfl) (by rfl) (OB.out.below ((Below.refl _ _).alloc (Nat.le_refl _) _)) (rd_blk (n := 1) (zs := [0]) (heap_alloc_new wB _) rfl (by unfold maxLen; omega) (fun y hy => u8_wf (by have e : y = 0 := (by simpa using hy); omega))) (by have := HM.out; have := HN8.out; have := HZL.out; rw [List.nil_append]; simp; omega) (by have := FB.out.size; simp; omega) ?_; intro v5 wC o5 g5; have FC := Lib.hid (show Below wA.heap.size wA wC from (FB.out.alloc FB.out.size _).trans ((fr_row g5).below (FB.out.alloc FB.out.size _).size (fun g hg => (OB.out.lt g hg).1))); obtain ⟨gc, cc, rfl, r5, _⟩ := own_rdx o5 HBZ0.out M1 HLZ0.out (by have := HM1.out; omega); have RC := Lib.hid r5; clear o5 g5 r5)
          | (go_at_call 19; ((with_reducible refine (CDB.out _ _ _ RC.out).mono ?_); rintro e wD ⟨rfl, bD⟩; have FD := Lib.hid (show Below wA.heap.size wA wD from FC.out.trans (bD.mono FC.out.size)); clear bD)))
        obtain ⟨wE, hwE, hbk, hbl, hszE⟩ := box_new wD (coC 0 0 0 (.slice none 0 0)) 29
        change Code.wp _ _ _ _ (wD.alloc (.cells (coC 0 0 0 (.slice none 0 0)) 29))
        rw [hwE]
        have FE := Lib.hid (FD.out.trans (hbl.mono FD.out.size))
        have QE := Lib.hid (QA.out.keep FE.out)
        have OE := Lib.hid (OA.out.below FE.out)
        have BLE := Lib.hid (BLA.out.trans (FE.out.mono BLA.out.size))
        clear hwE hbk hbl hszE
        have hMp : (0 : Int) < (M : Int) := by have := HM.out; omega
        have hM0 : ¬ (M : Int) = 0 := by omega
        obtain ⟨rm, ix, er1, er2, hixM, hixb, ewr, ewx, ewm, hrb⟩ := idx_steps a M (by omega) (by omega)
        have OS := own_set OE.out HZL.out ix hixM (x : Int)
        have HOS := Lib.hid OS.1
        have kf := OS.2.1
        obtain ⟨vv, kv⟩ := OS.2.2.1
        have HFS := Lib.hid OS.2.2.2
        have hxb : (x : Int) < 256 := by have h := HX.out; exact Int.ofNat_lt.2 h
        clear OS
        go_upto_region 18 with (fail)
        obtain ⟨wF, hwF⟩ : ∃ wF, wF = wE.setCell ⟨gb, ix, none⟩ (.int .u8 (x : Int)) := ⟨_, rfl⟩
        rw [← hwF] at HOS HFS ⊢
        clear kf kv er1 er2 ewr ewx ewm hrb
        obtain ⟨z', hz'⟩ : ∃ z', z' = z.set ix (x : Int) := ⟨_, rfl⟩
        rw [← hz'] at HOS
        have HZB' := Lib.hid (show byt z' from by
          rw [hz']
          intro y hy
          rcases List.mem_or_eq_of_mem_set hy with h | h
          · exact HZB.out y h
          · rw [h]; have := HX.out; omega)
        have HZL' := Lib.hid (show z'.length = M from by rw [hz', List.length_set]; exact HZL.out)
        have RF := Lib.hid (show RdI wF .u8 (some ⟨gb, 0, none⟩) M cb z' from by
          obtain ⟨g', c', e, hr, _⟩ := own_rdx HOS.out HZB'.out M HZL'.out (by have := HM.out; omega)
          injection e with e1 e2 e3
          injection e1 with e1; injection e1 with e1
          subst e1 e3
          exact hr)
        have QF := Lib.hid (QE.out.fr HFS.out (by have := NE.out.2; omega))
        have HGB := Lib.hid (show w.heap.size ≤ gb from by have h1 := (OE.out.lt gb rfl).1; have h2 := BL3.out.size; omega)
        have BLF := Lib.hid (BLE.out.trans (HFS.out.below BLE.out.size (fun k hk => by have := HGB.out; omega)))
        clear hwF hz' hixM hixb
        have HMU := Lib.hid (show M ≤ 100000 from by omega)
        by_cases hD : ∃ k, DecOK z' k
        · obtain ⟨k, hD⟩ := hD
          have HDK := Lib.hid hD
          have HCF := Lib.hid (cfg_of HZB'.out hD)
          have CDF := Lib.hid (cdec_yes _ M cb z' k HMU.out wF RF.out hD)
          obtain ⟨B2, hB2⟩ : ∃ y, y = num8 z' := ⟨_, rfl⟩
          obtain ⟨C2, hC2⟩ : ∃ y, y = num8 (z'.drop 8) := ⟨_, rfl⟩
          obtain ⟨U2, hU2⟩ : ∃ y, y = num8 (z'.drop 16) := ⟨_, rfl⟩
          have HI2 := Lib.hid (show i64In B2 ∧ i64In C2 ∧ i64In U2 from by
            rw [hB2, hC2, hU2]
            exact ⟨num8_i64 HZB'.out, num8_i64 (byt_drop HZB'.out _), num8_i64 (byt_drop HZB'.out _)⟩)
          have HRZ2 := Lib.hid (show rightZ B2 C2 U2 (lstR z' k) from by rw [hB2, hC2, hU2]; exact hD.2.2.2.2)
          have hk8 : k ≤ 8 := hD.2.1.2
          have HK8 := Lib.hid hk8
          rw [← hB2, ← hC2, ← hU2] at CDF HCF
          clear hD hB2 hC2 hU2
          go_upto_region 19 with (go_at_call 19; ((with_reducible refine CDF.out.mono ?_); rintro e wG ⟨LA2, LC2, rfl, oG, bG⟩; have ORG := Lib.hid oG; have QG := Lib.hid (QF.out.keep bG); have RG := Lib.hid (RF.out.below bG); have BLG := Lib.hid (BLF.out.trans (bG.mono BLF.out.size)); have kw := QG.out.wr; have kr := QG.out.rd; have NGB := Lib.hid (show b8 < wF.heap.size from lt_of_block QF.out); clear bG oG))
          rw [conf_set QG.out]
          have FRS := Lib.hid (show Fr (fun q => q = b8) wG (setObj wG b8 (.cells (coC B2 C2 U2 (.slice LA2 k LC2)) 29 (0, 0))) from Fr.setObj (F := fun q => q = b8) (Fr.refl _ _) rfl _)
          have QH := Lib.hid (show Blk (setObj wG b8 (.cells (coC B2 C2 U2 (.slice LA2 k LC2)) 29 (0, 0))) b8 29 (coC B2 C2 U2 (.slice LA2 k LC2)) from setObj_at (lt_of_block QG.out) _)
          obtain ⟨wH, hwH⟩ : ∃ wH, wH = setObj wG b8 (.cells (coC B2 C2 U2 (.slice LA2 k LC2)) 29 (0, 0)) := ⟨_, rfl⟩
          rw [← hwH] at FRS QH ⊢
          have HB8 := Lib.hid (show w.heap.size ≤ b8 from by have h1 := HGB.out; have h2 := NE.out.2; omega)
          have BLH := Lib.hid (BLG.out.trans (FRS.out.below BLG.out.size (fun q hq => by have := HB8.out; omega)))
          have RRH := Lib.hid (show RdRu wH LA2 k LC2 (lstR z' k) from by
            have hown := owns_fr9 ORG.out FRS.out (fun gq hq hF => by have h1 := (owns_typ ORG.out gq hq).1; have h2 := NGB.out; omega)
            obtain ⟨A', cap', e, h⟩ := ru_at hown (lstR_ok HZB'.out k)
            injection e with e1 e2 e3
            subst e1 e3
            exact h)
          have RH := Lib.hid (show RdI wH .u8 (some ⟨gb, 0, none⟩) M cb z' from by
            refine ⟨RG.out.len, RG.out.cap, RG.out.max, fun h0 => ?_, RG.out.wf⟩
            obtain ⟨d, off, e, hlt, hc⟩ := RG.out.at_ h0
            injection e with e; injection e with e1 e2
            subst e1 e2
            refine ⟨gb, 0, rfl, Nat.lt_of_lt_of_le hlt FRS.out.size, fun i hi => ?_⟩
            rw [← hc i hi]
            exact FRS.out.cell (b := gb) (o := 0 + i) hlt (by have := NE.out.2; show ¬ gb = b8; omega))
          obtain ⟨sb', hsb'⟩ : ∃ s, s = strOfNums z' := ⟨_, rfl⟩
          have SS2 := Lib.hid (fun (wx : World) (hx : Below wH.heap.size wH wx) => show (∀ i, wx.cell? ⟨b8, i, none⟩ = (coC B2 C2 U2 (.slice LA2 k LC2))[i]?) ∧ (convert 33 9 (.slice (some ⟨gb, 0, none⟩) M cb)).run Try.prog wx = .ok (.string sb') wx from by
            refine ⟨(QH.out.keep hx).rd, ?_⟩
            rw [hsb']; exact conv_str (P := Try.prog) (by rfl) (by rfl) (by rfl) (RH.out.below hx))
          have CLH := Lib.hid (fun (wx : World) (hx : Below wH.heap.size wH wx) => lright_any B2 C2 U2 LA2 k LC2 (lstR z' k) true (by simp only [true_iff]; exact HRZ2.out) wx (RRH.out.below hx))
          have CEH := Lib.hid (fun (wx : World) (hx : Below wH.heap.size wH wx) => show Calls Try.prog 18 #[.agg (coC B2 C2 U2 (.slice LA2 k LC2))] wx (fun e w' => (∃ g' c', e = .returned (.slice (some ⟨g', 0, none⟩) M c') ∧ (convert 33 9 (.slice (some ⟨g', 0, none⟩) M c')).run Try.prog w' = .ok (.string sb') w') ∧ Below wx.heap.size wx w') from (cencode_any B2 C2 U2 LA2 k LC2 (lstR z' k) HI2.out (by have := HK8.out; omega) wx (RRH.out.below hx)).mono (fun e w' ⟨v', he, ho, hb⟩ => by
            rw [HCF.out] at ho
            obtain ⟨g', c', e1, r', _⟩ := own_rdx ho HZB'.out M HZL'.out (by have := HM.out; omega)
            subst e1
            rw [hsb']
            exact ⟨⟨g', c', he, conv_str (P := Try.prog) (by rfl) (by rfl) (by rfl) r'⟩, hb⟩))
          have BDH := Lib.hid (show Below wH.heap.size wH wH.drew from below_draws (Below.refl _ _) 1)
          obtain ⟨z1, z2⟩ := SS2.out wH.drew BDH.out
          clear kw kr hwH hsb' hk8
          have y0 := And.intro z1 z2
          refine wp_region_held_drew (S := fun w' => (∀ i, w'.cell? ⟨b8, i, none⟩ = (coC B2 C2 U2 (.slice LA2 k LC2))[i]?) ∧ (convert 33 9 (.slice (some ⟨gb, 0, none⟩) M cb)).run Try.prog w' = .ok (.string sb') w') (by kernel_rfl) y0 (fun hHeld => ?_)
          clear y0 z1 z2
          refine wpAnyH_take (i := 0) (oi := ?_) (v := ?_) ?_ ?_ ?_ ?_ ?_ ?_ ?_ ?_
          rotate_left 2
          · simp only [List.getElem?_toArray, List.getElem?_cons_succ, List.getElem?_cons_zero]; rfl
          · kernel_rfl
          · kernel_rfl
          · kernel_rfl
          · exact fun _ _ _ h => h
          · refine Or.inl ⟨by rfl, ?_⟩
            intro w' hSw
            (try dsimp only at hSw)
            go_simp
            all_goals (with_reducible rfl)
          · assumption
          try simp only [Act.put, List.setIfInBounds_toArray, List.set_cons_zero, List.set_cons_succ]
          refine wpAnyH_take (i := 1) (oi := ?_) (v := ?_) ?_ ?_ ?_ ?_ ?_ ?_ ?_ ?_
          rotate_left 2
          · simp only [List.getElem?_toArray, List.getElem?_cons_succ, List.getElem?_cons_zero]; rfl
          · kernel_rfl
          · kernel_rfl
          · kernel_rfl
          · exact fun _ _ _ h => h
          · refine Or.inl ⟨by rfl, ?_⟩
            intro w' hSw
            (try dsimp only at hSw)
            go_simp
            all_goals (with_reducible rfl)
          · assumption
          try simp only [Act.put, List.setIfInBounds_toArray, List.set_cons_zero, List.set_cons_succ]
          refine wpAnyH_take (i := 2) (oi := ?_) (v := ?_) ?_ ?_ ?_ ?_ ?_ ?_ ?_ ?_
          rotate_left 2
          · simp only [List.getElem?_toArray, List.getElem?_cons_succ, List.getElem?_cons_zero]; rfl
          · kernel_rfl
          · kernel_rfl
          · kernel_rfl
          · exact fun _ _ _ h => h
          · refine Or.inl ⟨by rfl, ?_⟩
            intro w' hSw
            (try dsimp only at hSw)
            go_simp
            all_goals (with_reducible rfl)
          · assumption
          try simp only [Act.put, List.setIfInBounds_toArray, List.set_cons_zero, List.set_cons_succ]
          refine wpAnyH_take (i := 3) (oi := ?_) (v := ?_) ?_ ?_ ?_ ?_ ?_ ?_ ?_ ?_
          rotate_left 2
          · simp only [List.getElem?_toArray, List.getElem?_cons_succ, List.getElem?_cons_zero]; rfl
          · kernel_rfl
          · kernel_rfl
          · kernel_rfl
          · exact fun _ _ _ h => h
          · refine Or.inl ⟨by rfl, ?_⟩
            intro w' hSw
            (try dsimp only at hSw)
            go_simp
            all_goals (with_reducible rfl)
          · assumption
          try simp only [Act.put, List.setIfInBounds_toArray, List.set_cons_zero, List.set_cons_succ]
          refine wpAnyH_take (i := 4) (oi := ?_) (v := ?_) ?_ ?_ ?_ ?_ ?_ ?_ ?_ ?_
          rotate_left 2
          · simp only [List.getElem?_toArray, List.getElem?_cons_succ, List.getElem?_cons_zero]; rfl
          · kernel_rfl
          · kernel_rfl
          · kernel_rfl
          · exact fun _ _ _ h => h
          · refine Or.inl ⟨by rfl, ?_⟩
            intro w' hSw
            (try dsimp only at hSw)
            go_simp
            all_goals (with_reducible rfl)
          · assumption
          try simp only [Act.put, List.setIfInBounds_toArray, List.set_cons_zero, List.set_cons_succ]
          refine wpAnyH_take (i := 5) (oi := ?_) (v := ?_) ?_ ?_ ?_ ?_ ?_ ?_ ?_ ?_
          rotate_left 2
          · simp only [List.getElem?_toArray, List.getElem?_cons_succ, List.getElem?_cons_zero]; rfl
          · kernel_rfl
          · kernel_rfl
          · kernel_rfl
          · exact fun _ _ _ h => h
          · refine Or.inl ⟨by rfl, ?_⟩
            intro w' hSw
            (try dsimp only at hSw)
            go_simp
            all_goals (with_reducible rfl)
          · assumption
          try simp only [Act.put, List.setIfInBounds_toArray, List.set_cons_zero, List.set_cons_succ]
          refine wpAnyH_take (i := 6) (oi := ?_) (v := ?_) ?_ ?_ ?_ ?_ ?_ ?_ ?_ ?_
          rotate_left 2
          · simp only [List.getElem?_toArray, List.getElem?_cons_succ, List.getElem?_cons_zero]; rfl
          · kernel_rfl
          · kernel_rfl
          · kernel_rfl
          · exact fun _ _ _ h => h
          · refine Or.inl ⟨by rfl, ?_⟩
            intro w' hSw
            (try dsimp only at hSw)
            go_simp
            all_goals (with_reducible rfl)
          · assumption
          try simp only [Act.put, List.setIfInBounds_toArray, List.set_cons_zero, List.set_cons_succ]
          refine wpAnyH_take (i := 7) (oi := ?_) (v := ?_) ?_ ?_ ?_ ?_ ?_ ?_ ?_ ?_
          rotate_left 2
          · simp only [List.getElem?_toArray, List.getElem?_cons_succ, List.getElem?_cons_zero]; rfl
          · kernel_rfl
          · kernel_rfl
          · kernel_rfl
          · exact fun _ _ _ h => h
          · refine Or.inl ⟨by rfl, ?_⟩
            intro w' hSw
            (try dsimp only at hSw)
            go_simp
            all_goals (with_reducible rfl)
          · assumption
          try simp only [Act.put, List.setIfInBounds_toArray, List.set_cons_zero, List.set_cons_succ]
          refine wpAnyH_take (i := 8) (oi := ?_) (v := ?_) ?_ ?_ ?_ ?_ ?_ ?_ ?_ ?_
          rotate_left 2
          · simp only [List.getElem?_toArray, List.getElem?_cons_succ, List.getElem?_cons_zero]; rfl
          · kernel_rfl
          · kernel_rfl
          · kernel_rfl
          · exact fun _ _ _ h => h
          · refine Or.inl ⟨by rfl, ?_⟩
            intro w' hSw
            (try dsimp only at hSw)
            go_simp
            all_goals (with_reducible rfl)
          · assumption
          try simp only [Act.put, List.setIfInBounds_toArray, List.set_cons_zero, List.set_cons_succ]
          refine wpAnyH_take (i := 9) (oi := ?_) (v := ?_) ?_ ?_ ?_ ?_ ?_ ?_ ?_ ?_
          rotate_left 2
          · simp only [List.getElem?_toArray, List.getElem?_cons_succ, List.getElem?_cons_zero]; rfl
          · kernel_rfl
          · kernel_rfl
          · kernel_rfl
          · exact fun _ _ _ h => h
          · refine Or.inl ⟨by rfl, ?_⟩
            intro w' hSw
            (try dsimp only at hSw)
            go_simp
            all_goals (with_reducible rfl)
          · assumption
          try simp only [Act.put, List.setIfInBounds_toArray, List.set_cons_zero, List.set_cons_succ]
          refine wpAnyH_take (i := 10) (oi := ?_) (v := undef) ?_ ?_ ?_ ?_ ?_ ?_ ?_ ?_
          rotate_left 1
          · simp only [List.getElem?_toArray, List.getElem?_cons_succ, List.getElem?_cons_zero]; rfl
          · kernel_rfl
          · kernel_rfl
          · kernel_rfl
          · exact fun _ _ _ h => h
          · exact Or.inr ⟨by kernel_rfl, rfl⟩
          · assumption
          try simp only [Act.put, List.setIfInBounds_toArray, List.set_cons_zero, List.set_cons_succ]
          refine wpAnyH_take (i := 11) (oi := ?_) (v := undef) ?_ ?_ ?_ ?_ ?_ ?_ ?_ ?_
          rotate_left 1
          · simp only [List.getElem?_toArray, List.getElem?_cons_succ, List.getElem?_cons_zero]; rfl
          · kernel_rfl
          · kernel_rfl
          · kernel_rfl
          · exact fun _ _ _ h => h
          · exact Or.inr ⟨by kernel_rfl, rfl⟩
          · assumption
          try simp only [Act.put, List.setIfInBounds_toArray, List.set_cons_zero, List.set_cons_succ]
          refine wpAnyH_take (i := 12) (oi := ?_) (v := undef) ?_ ?_ ?_ ?_ ?_ ?_ ?_ ?_
          rotate_left 1
          · simp only [List.getElem?_toArray, List.getElem?_cons_succ, List.getElem?_cons_zero]; rfl
          · kernel_rfl
          · kernel_rfl
          · kernel_rfl
          · exact fun _ _ _ h => h
          · exact Or.inr ⟨by kernel_rfl, rfl⟩
          · assumption
          try simp only [Act.put, List.setIfInBounds_toArray, List.set_cons_zero, List.set_cons_succ]
          refine wpAnyH_take (i := 13) (oi := ?_) (v := undef) ?_ ?_ ?_ ?_ ?_ ?_ ?_ ?_
          rotate_left 1
          · simp only [List.getElem?_toArray, List.getElem?_cons_succ, List.getElem?_cons_zero]; rfl
          · kernel_rfl
          · kernel_rfl
          · kernel_rfl
          · exact fun _ _ _ h => h
          · exact Or.inr ⟨by kernel_rfl, rfl⟩
          · assumption
          try simp only [Act.put, List.setIfInBounds_toArray, List.set_cons_zero, List.set_cons_succ]
          refine wpAnyH_take (i := 14) (oi := ?_) (v := ?_) ?_ ?_ ?_ ?_ ?_ ?_ ?_ ?_
          rotate_left 2
          · simp only [List.getElem?_toArray, List.getElem?_cons_succ, List.getElem?_cons_zero]; rfl
          · kernel_rfl
          · kernel_rfl
          · kernel_rfl
          · exact fun _ _ _ h => h
          · refine Or.inl ⟨by rfl, ?_⟩
            intro w' hSw
            (try dsimp only at hSw)
            go_simp
            all_goals (with_reducible rfl)
          · assumption
          try simp only [Act.put, List.setIfInBounds_toArray, List.set_cons_zero, List.set_cons_succ]
          refine wpAnyH_take (i := 15) (oi := ?_) (v := ?_) ?_ ?_ ?_ ?_ ?_ ?_ ?_ ?_
          rotate_left 2
          · simp only [List.getElem?_toArray, List.getElem?_cons_succ, List.getElem?_cons_zero]; rfl
          · kernel_rfl
          · kernel_rfl
          · kernel_rfl
          · exact fun _ _ _ h => h
          · refine Or.inl ⟨by rfl, ?_⟩
            intro w' hSw
            (try dsimp only at hSw)
            go_simp
            all_goals (with_reducible rfl)
          · assumption
          try simp only [Act.put, List.setIfInBounds_toArray, List.set_cons_zero, List.set_cons_succ]
          refine wpAnyH_take (i := 16) (oi := ?_) (v := ?_) ?_ ?_ ?_ ?_ ?_ ?_ ?_ ?_
          rotate_left 2
          · simp only [List.getElem?_toArray, List.getElem?_cons_succ, List.getElem?_cons_zero]; rfl
          · kernel_rfl
          · kernel_rfl
          · kernel_rfl
          · exact fun _ _ _ h => h
          · refine Or.inl ⟨by rfl, ?_⟩
            intro w' hSw
            (try dsimp only at hSw)
            go_simp
            all_goals (with_reducible rfl)
          · assumption
          try simp only [Act.put, List.setIfInBounds_toArray, List.set_cons_zero, List.set_cons_succ]
          refine wpAnyH_take (i := 17) (oi := ?_) (v := ?_) ?_ ?_ ?_ ?_ ?_ ?_ ?_ ?_
          rotate_left 2
          · simp only [List.getElem?_toArray, List.getElem?_cons_succ, List.getElem?_cons_zero]; rfl
          · kernel_rfl
          · kernel_rfl
          · kernel_rfl
          · exact fun _ _ _ h => h
          · refine Or.inl ⟨by rfl, ?_⟩
            intro w' hSw
            (try dsimp only at hSw)
            go_simp
            all_goals (with_reducible rfl)
          · assumption
          try simp only [Act.put, List.setIfInBounds_toArray, List.set_cons_zero, List.set_cons_succ]
          refine wpAnyH_take (i := 18) (oi := ?_) (v := ?_) ?_ ?_ ?_ ?_ ?_ ?_ ?_ ?_
          rotate_left 2
          · simp only [List.getElem?_toArray, List.getElem?_cons_succ, List.getElem?_cons_zero]; rfl
          · kernel_rfl
          · kernel_rfl
          · kernel_rfl
          · exact fun _ _ _ h => h
          · refine Or.inl ⟨by rfl, ?_⟩
            intro w' hSw
            (try dsimp only at hSw)
            go_simp
            all_goals (with_reducible rfl)
          · assumption
          try simp only [Act.put, List.setIfInBounds_toArray, List.set_cons_zero, List.set_cons_succ]
          refine wpAnyH_take (i := 19) (oi := ?_) (v := ?_) ?_ ?_ ?_ ?_ ?_ ?_ ?_ ?_
          rotate_left 2
          · simp only [List.getElem?_toArray, List.getElem?_cons_succ, List.getElem?_cons_zero]; rfl
          · kernel_rfl
          · kernel_rfl
          · kernel_rfl
          · exact fun _ _ _ h => h
          · refine Or.inl ⟨by rfl, ?_⟩
            intro w' hSw
            (try dsimp only at hSw)
            go_simp
            all_goals (with_reducible rfl)
          · assumption
          try simp only [Act.put, List.setIfInBounds_toArray, List.set_cons_zero, List.set_cons_succ]
          refine wpAnyH_ready (rs := [20]) (by kernel_rfl) (by simp) ?_
          refine AllReadyH.cons (o := ?_) ?_ ?_ ?_
          rotate_left 1
          · simp only [List.getElem?_toArray, List.getElem?_cons_succ, List.getElem?_cons_zero]; rfl
          rotate_left 1
          · exact AllReadyH.nil
          intro K hK
          go_simp
          ((with_reducible refine (CLH.out _ BDH.out).mono ?_); rintro e wi ⟨rfl, bi⟩; have BI := Lib.hid (BDH.out.trans (bi.mono BDH.out.size)); clear bi)
          refine hK.out _ _ (SS2.out _ BI.out) (fun hHeld => ?_)
          clear hK K
          try simp only [Act.put, List.setIfInBounds_toArray, List.set_cons_zero, List.set_cons_succ]
          refine wpAnyH_take (i := 21) (oi := ?_) (v := ?_) ?_ ?_ ?_ ?_ ?_ ?_ ?_ ?_
          rotate_left 2
          · simp only [List.getElem?_toArray, List.getElem?_cons_succ, List.getElem?_cons_zero]; rfl
          · kernel_rfl
          · kernel_rfl
          · kernel_rfl
          · exact fun _ _ _ h => h
          · refine Or.inl ⟨by rfl, ?_⟩
            intro w' hSw
            (try dsimp only at hSw)
            go_simp
            all_goals (with_reducible rfl)
          · assumption
          try simp only [Act.put, List.setIfInBounds_toArray, List.set_cons_zero, List.set_cons_succ]
          refine wpAnyH_take (i := 22) (oi := ?_) (v := ?_) ?_ ?_ ?_ ?_ ?_ ?_ ?_ ?_
          rotate_left 2
          · simp only [List.getElem?_toArray, List.getElem?_cons_succ, List.getElem?_cons_zero]; rfl
          · kernel_rfl
          · kernel_rfl
          · kernel_rfl
          · exact fun _ _ _ h => h
          · refine Or.inl ⟨by rfl, ?_⟩
            intro w' hSw
            (try dsimp only at hSw)
            go_simp
            all_goals (with_reducible rfl)
          · assumption
          try simp only [Act.put, List.setIfInBounds_toArray, List.set_cons_zero, List.set_cons_succ]
          refine wpAnyH_take (i := 23) (oi := ?_) (v := ?_) ?_ ?_ ?_ ?_ ?_ ?_ ?_ ?_
          rotate_left 2
          · simp only [List.getElem?_toArray, List.getElem?_cons_succ, List.getElem?_cons_zero]; rfl
          · kernel_rfl
          · kernel_rfl
          · kernel_rfl
          · exact fun _ _ _ h => h
          · refine Or.inl ⟨by rfl, ?_⟩
            intro w' hSw
            (try dsimp only at hSw)
            go_simp
            all_goals (with_reducible rfl)
          · assumption
          try simp only [Act.put, List.setIfInBounds_toArray, List.set_cons_zero, List.set_cons_succ]
          refine wpAnyH_take (i := 26) (oi := ?_) (v := ?_) ?_ ?_ ?_ ?_ ?_ ?_ ?_ ?_
          rotate_left 2
          · simp only [List.getElem?_toArray, List.getElem?_cons_succ, List.getElem?_cons_zero]; rfl
          · kernel_rfl
          · kernel_rfl
          · kernel_rfl
          · exact fun _ _ _ h => h
          · refine Or.inl ⟨by rfl, ?_⟩
            intro w' hSw
            (try dsimp only at hSw)
            go_simp
            all_goals (with_reducible rfl)
          · assumption
          try simp only [Act.put, List.setIfInBounds_toArray, List.set_cons_zero, List.set_cons_succ]
          refine wpAnyH_take (i := 27) (oi := ?_) (v := ?_) ?_ ?_ ?_ ?_ ?_ ?_ ?_ ?_
          rotate_left 2
          · simp only [List.getElem?_toArray, List.getElem?_cons_succ, List.getElem?_cons_zero]; rfl
          · kernel_rfl
          · kernel_rfl
          · kernel_rfl
          · exact fun _ _ _ h => h
          · refine Or.inl ⟨by rfl, ?_⟩
            intro w' hSw
            (try dsimp only at hSw)
            go_simp
            all_goals (with_reducible rfl)
          · assumption
          try simp only [Act.put, List.setIfInBounds_toArray, List.set_cons_zero, List.set_cons_succ]
          refine wpAnyH_ready (rs := [24]) (by kernel_rfl) (by simp) ?_
          refine AllReadyH.cons (o := ?_) ?_ ?_ ?_
          rotate_left 1
          · simp only [List.getElem?_toArray, List.getElem?_cons_succ, List.getElem?_cons_zero]; rfl
          rotate_left 1
          · exact AllReadyH.nil
          intro K hK
          go_simp
          ((with_reducible refine (CEH.out _ BI.out).mono ?_); rintro e wj ⟨⟨g', c', rfl, hcv⟩, bj⟩; have BJ := Lib.hid (BI.out.trans (bj.mono BI.out.size)); clear bj)
          refine hK.out _ _ (SS2.out _ BJ.out) (fun hHeld => ?_)
          clear hK K
          try simp only [Act.put, List.setIfInBounds_toArray, List.set_cons_zero, List.set_cons_succ]
          refine wpAnyH_ready (rs := [25]) (by kernel_rfl) (by simp) ?_
          refine AllReadyH.cons (o := ?_) ?_ ?_ ?_
          rotate_left 1
          · simp only [List.getElem?_toArray, List.getElem?_cons_succ, List.getElem?_cons_zero]; rfl
          rotate_left 1
          · exact AllReadyH.nil
          intro K hK
          go_simp
          skip
          refine hK.out _ _ (SS2.out _ BJ.out) (fun hHeld => ?_)
          clear hK K
          try simp only [Act.put, List.setIfInBounds_toArray, List.set_cons_zero, List.set_cons_succ]
          refine wpAnyH_take (i := 28) (oi := ?_) (v := ?_) ?_ ?_ ?_ ?_ ?_ ?_ ?_ ?_
          rotate_left 2
          · simp only [List.getElem?_toArray, List.getElem?_cons_succ, List.getElem?_cons_zero]; rfl
          · kernel_rfl
          · kernel_rfl
          · kernel_rfl
          · exact fun _ _ _ h => h
          · refine Or.inl ⟨by rfl, ?_⟩
            intro w' hSw
            (try dsimp only at hSw)
            go_simp
            all_goals (with_reducible rfl)
          · assumption
          try simp only [Act.put, List.setIfInBounds_toArray, List.set_cons_zero, List.set_cons_succ]
          refine wpAnyH_take (i := 29) (oi := ?_) (v := ?_) ?_ ?_ ?_ ?_ ?_ ?_ ?_ ?_
          rotate_left 2
          · simp only [List.getElem?_toArray, List.getElem?_cons_succ, List.getElem?_cons_zero]; rfl
          · kernel_rfl
          · kernel_rfl
          · kernel_rfl
          · exact fun _ _ _ h => h
          · refine Or.inl ⟨by rfl, ?_⟩
            intro w' hSw
            (try dsimp only at hSw)
            go_simp
            all_goals (with_reducible rfl)
          · assumption
          try simp only [Act.put, List.setIfInBounds_toArray, List.set_cons_zero, List.set_cons_succ]
          refine wpAnyH_take (i := 30) (oi := ?_) (v := ?_) ?_ ?_ ?_ ?_ ?_ ?_ ?_ ?_
          rotate_left 2
          · simp only [List.getElem?_toArray, List.getElem?_cons_succ, List.getElem?_cons_zero]; rfl
          · kernel_rfl
          · kernel_rfl
          · kernel_rfl
          · exact fun _ _ _ h => h
          · refine Or.inl ⟨by rfl, ?_⟩
            intro w' hSw
            (try dsimp only at hSw)
            go_simp
            all_goals (with_reducible rfl)
          · assumption
          try simp only [Act.put, List.setIfInBounds_toArray, List.set_cons_zero, List.set_cons_succ]
          refine wpAnyH_take (i := 31) (oi := ?_) (v := ?_) ?_ ?_ ?_ ?_ ?_ ?_ ?_ ?_
          rotate_left 2
          · simp only [List.getElem?_toArray, List.getElem?_cons_succ, List.getElem?_cons_zero]; rfl
          · kernel_rfl
          · kernel_rfl
          · kernel_rfl
          · exact fun _ _ _ h => h
          · refine Or.inl ⟨by rfl, ?_⟩
            intro w' hSw
            (try dsimp only at hSw)
            go_simp
            all_goals (with_reducible rfl)
          · assumption
          try simp only [Act.put, List.setIfInBounds_toArray, List.set_cons_zero, List.set_cons_succ]
          refine wpAnyH_take (i := 32) (oi := ?_) (v := ?_) ?_ ?_ ?_ ?_ ?_ ?_ ?_ ?_
          rotate_left 2
          · simp only [List.getElem?_toArray, List.getElem?_cons_succ, List.getElem?_cons_zero]; rfl
          · kernel_rfl
          · kernel_rfl
          · kernel_rfl
          · exact fun _ _ _ h => h
          · refine Or.inl ⟨by rfl, ?_⟩
            intro w' hSw
            (try dsimp only at hSw)
            go_simp
            all_goals (with_reducible rfl)
          · assumption
          try simp only [Act.put, List.setIfInBounds_toArray, List.set_cons_zero, List.set_cons_succ]
          refine wpAnyH_done (by kernel_rfl) ?_ _
          clear hHeld hcv
          go_wp2
          go_ret
          exact ⟨rfl, BLH.out.trans (BJ.out.mono BLH.out.size)⟩
        · have CDF := Lib.hid (cdec_no _ M cb z' HMU.out wF RF.out (fun k h => hD ⟨k, h⟩))
          clear hD
          go_upto_region 19 with (go_at_call 19; ((with_reducible refine CDF.out.mono ?_); rintro e wG ⟨rfl, bG⟩; have QG := Lib.hid (QF.out.keep bG); have BLG := Lib.hid (BLF.out.trans (bG.mono BLF.out.size)); have kw := QG.out.wr; have kr := QG.out.rd; clear bG))
          rw [conf_set QG.out]
          have FRS := Lib.hid (show Fr (fun q => q = b8) wG (setObj wG b8 (.cells (coC 0 0 0 (.slice none 0 0)) 29 (0, 0))) from Fr.setObj (F := fun q => q = b8) (Fr.refl _ _) rfl _)
          have QH := Lib.hid (show Blk (setObj wG b8 (.cells (coC 0 0 0 (.slice none 0 0)) 29 (0, 0))) b8 29 (coC 0 0 0 (.slice none 0 0)) from setObj_at (lt_of_block QG.out) _)
          obtain ⟨wH, hwH⟩ : ∃ wH, wH = setObj wG b8 (.cells (coC 0 0 0 (.slice none 0 0)) 29 (0, 0)) := ⟨_, rfl⟩
          rw [← hwH] at FRS QH ⊢
          have HB8 := Lib.hid (show w.heap.size ≤ b8 from by have h1 := HGB.out; have h2 := NE.out.2; omega)
          have BLH := Lib.hid (BLG.out.trans (FRS.out.below BLG.out.size (fun q hq => by have := HB8.out; omega)))
          have y0 : ∀ i, wH.drew.cell? ⟨b8, i, none⟩ = (coC 0 0 0 (.slice none 0 0))[i]? := QH.out.drew.rd
          clear kw kr hwH
          refine wp_region_held_drew (S := fun w' => ∀ i, w'.cell? ⟨b8, i, none⟩ = (coC 0 0 0 (.slice none 0 0))[i]?) (by kernel_rfl) y0 (fun hHeld => ?_)
          clear y0
          refine wpAnyH_take (i := 0) (oi := ?_) (v := ?_) ?_ ?_ ?_ ?_ ?_ ?_ ?_ ?_
          rotate_left 2
          · simp only [List.getElem?_toArray, List.getElem?_cons_succ, List.getElem?_cons_zero]; rfl
          · kernel_rfl
          · kernel_rfl
          · kernel_rfl
          · exact fun _ _ _ h => h
          · refine Or.inl ⟨by rfl, ?_⟩
            intro w' hSw
            (try dsimp only at hSw)
            go_simp
            all_goals (with_reducible rfl)
          · assumption
          try simp only [Act.put, List.setIfInBounds_toArray, List.set_cons_zero, List.set_cons_succ]
          refine wpAnyH_take (i := 1) (oi := ?_) (v := ?_) ?_ ?_ ?_ ?_ ?_ ?_ ?_ ?_
          rotate_left 2
          · simp only [List.getElem?_toArray, List.getElem?_cons_succ, List.getElem?_cons_zero]; rfl
          · kernel_rfl
          · kernel_rfl
          · kernel_rfl
          · exact fun _ _ _ h => h
          · refine Or.inl ⟨by rfl, ?_⟩
            intro w' hSw
            (try dsimp only at hSw)
            go_simp
            all_goals (with_reducible rfl)
          · assumption
          try simp only [Act.put, List.setIfInBounds_toArray, List.set_cons_zero, List.set_cons_succ]
          refine wpAnyH_take (i := 2) (oi := ?_) (v := ?_) ?_ ?_ ?_ ?_ ?_ ?_ ?_ ?_
          rotate_left 2
          · simp only [List.getElem?_toArray, List.getElem?_cons_succ, List.getElem?_cons_zero]; rfl
          · kernel_rfl
          · kernel_rfl
          · kernel_rfl
          · exact fun _ _ _ h => h
          · refine Or.inl ⟨by rfl, ?_⟩
            intro w' hSw
            (try dsimp only at hSw)
            go_simp
            all_goals (with_reducible rfl)
          · assumption
          try simp only [Act.put, List.setIfInBounds_toArray, List.set_cons_zero, List.set_cons_succ]
          refine wpAnyH_take (i := 3) (oi := ?_) (v := ?_) ?_ ?_ ?_ ?_ ?_ ?_ ?_ ?_
          rotate_left 2
          · simp only [List.getElem?_toArray, List.getElem?_cons_succ, List.getElem?_cons_zero]; rfl
          · kernel_rfl
          · kernel_rfl
          · kernel_rfl
          · exact fun _ _ _ h => h
          · refine Or.inl ⟨by rfl, ?_⟩
            intro w' hSw
            (try dsimp only at hSw)
            go_simp
            all_goals (with_reducible rfl)
          · assumption
          try simp only [Act.put, List.setIfInBounds_toArray, List.set_cons_zero, List.set_cons_succ]
          refine wpAnyH_take (i := 4) (oi := ?_) (v := ?_) ?_ ?_ ?_ ?_ ?_ ?_ ?_ ?_
          rotate_left 2
          · simp only [List.getElem?_toArray, List.getElem?_cons_succ, List.getElem?_cons_zero]; rfl
          · kernel_rfl
          · kernel_rfl
          · kernel_rfl
          · exact fun _ _ _ h => h
          · refine Or.inl ⟨by rfl, ?_⟩
            intro w' hSw
            (try dsimp only at hSw)
            go_simp
            all_goals (with_reducible rfl)
          · assumption
          try simp only [Act.put, List.setIfInBounds_toArray, List.set_cons_zero, List.set_cons_succ]
          refine wpAnyH_take (i := 5) (oi := ?_) (v := ?_) ?_ ?_ ?_ ?_ ?_ ?_ ?_ ?_
          rotate_left 2
          · simp only [List.getElem?_toArray, List.getElem?_cons_succ, List.getElem?_cons_zero]; rfl
          · kernel_rfl
          · kernel_rfl
          · kernel_rfl
          · exact fun _ _ _ h => h
          · refine Or.inl ⟨by rfl, ?_⟩
            intro w' hSw
            (try dsimp only at hSw)
            go_simp
            all_goals (with_reducible rfl)
          · assumption
          try simp only [Act.put, List.setIfInBounds_toArray, List.set_cons_zero, List.set_cons_succ]
          refine wpAnyH_take (i := 6) (oi := ?_) (v := ?_) ?_ ?_ ?_ ?_ ?_ ?_ ?_ ?_
          rotate_left 2
          · simp only [List.getElem?_toArray, List.getElem?_cons_succ, List.getElem?_cons_zero]; rfl
          · kernel_rfl
          · kernel_rfl
          · kernel_rfl
          · exact fun _ _ _ h => h
          · refine Or.inl ⟨by rfl, ?_⟩
            intro w' hSw
            (try dsimp only at hSw)
            go_simp
            all_goals (with_reducible rfl)
          · assumption
          try simp only [Act.put, List.setIfInBounds_toArray, List.set_cons_zero, List.set_cons_succ]
          refine wpAnyH_take (i := 7) (oi := ?_) (v := ?_) ?_ ?_ ?_ ?_ ?_ ?_ ?_ ?_
          rotate_left 2
          · simp only [List.getElem?_toArray, List.getElem?_cons_succ, List.getElem?_cons_zero]; rfl
          · kernel_rfl
          · kernel_rfl
          · kernel_rfl
          · exact fun _ _ _ h => h
          · refine Or.inl ⟨by rfl, ?_⟩
            intro w' hSw
            (try dsimp only at hSw)
            go_simp
            all_goals (with_reducible rfl)
          · assumption
          try simp only [Act.put, List.setIfInBounds_toArray, List.set_cons_zero, List.set_cons_succ]
          refine wpAnyH_take (i := 8) (oi := ?_) (v := ?_) ?_ ?_ ?_ ?_ ?_ ?_ ?_ ?_
          rotate_left 2
          · simp only [List.getElem?_toArray, List.getElem?_cons_succ, List.getElem?_cons_zero]; rfl
          · kernel_rfl
          · kernel_rfl
          · kernel_rfl
          · exact fun _ _ _ h => h
          · refine Or.inl ⟨by rfl, ?_⟩
            intro w' hSw
            (try dsimp only at hSw)
            go_simp
            all_goals (with_reducible rfl)
          · assumption
          try simp only [Act.put, List.setIfInBounds_toArray, List.set_cons_zero, List.set_cons_succ]
          refine wpAnyH_take (i := 9) (oi := ?_) (v := ?_) ?_ ?_ ?_ ?_ ?_ ?_ ?_ ?_
          rotate_left 2
          · simp only [List.getElem?_toArray, List.getElem?_cons_succ, List.getElem?_cons_zero]; rfl
          · kernel_rfl
          · kernel_rfl
          · kernel_rfl
          · exact fun _ _ _ h => h
          · refine Or.inl ⟨by rfl, ?_⟩
            intro w' hSw
            (try dsimp only at hSw)
            go_simp
            all_goals (with_reducible rfl)
          · assumption
          try simp only [Act.put, List.setIfInBounds_toArray, List.set_cons_zero, List.set_cons_succ]
          refine wpAnyH_take (i := 10) (oi := ?_) (v := ?_) ?_ ?_ ?_ ?_ ?_ ?_ ?_ ?_
          rotate_left 2
          · simp only [List.getElem?_toArray, List.getElem?_cons_succ, List.getElem?_cons_zero]; rfl
          · kernel_rfl
          · kernel_rfl
          · kernel_rfl
          · exact fun _ _ _ h => h
          · refine Or.inl ⟨by rfl, ?_⟩
            intro w' hSw
            (try dsimp only at hSw)
            go_simp
            all_goals (with_reducible rfl)
          · assumption
          try simp only [Act.put, List.setIfInBounds_toArray, List.set_cons_zero, List.set_cons_succ]
          refine wpAnyH_take (i := 11) (oi := ?_) (v := ?_) ?_ ?_ ?_ ?_ ?_ ?_ ?_ ?_
          rotate_left 2
          · simp only [List.getElem?_toArray, List.getElem?_cons_succ, List.getElem?_cons_zero]; rfl
          · kernel_rfl
          · kernel_rfl
          · kernel_rfl
          · exact fun _ _ _ h => h
          · refine Or.inl ⟨by rfl, ?_⟩
            intro w' hSw
            (try dsimp only at hSw)
            go_simp
            all_goals (with_reducible rfl)
          · assumption
          try simp only [Act.put, List.setIfInBounds_toArray, List.set_cons_zero, List.set_cons_succ]
          refine wpAnyH_take (i := 12) (oi := ?_) (v := ?_) ?_ ?_ ?_ ?_ ?_ ?_ ?_ ?_
          rotate_left 2
          · simp only [List.getElem?_toArray, List.getElem?_cons_succ, List.getElem?_cons_zero]; rfl
          · kernel_rfl
          · kernel_rfl
          · kernel_rfl
          · exact fun _ _ _ h => h
          · refine Or.inl ⟨by rfl, ?_⟩
            intro w' hSw
            (try dsimp only at hSw)
            go_simp
            all_goals (with_reducible rfl)
          · assumption
          try simp only [Act.put, List.setIfInBounds_toArray, List.set_cons_zero, List.set_cons_succ]
          refine wpAnyH_take (i := 13) (oi := ?_) (v := ?_) ?_ ?_ ?_ ?_ ?_ ?_ ?_ ?_
          rotate_left 2
          · simp only [List.getElem?_toArray, List.getElem?_cons_succ, List.getElem?_cons_zero]; rfl
          · kernel_rfl
          · kernel_rfl
          · kernel_rfl
          · exact fun _ _ _ h => h
          · refine Or.inl ⟨by rfl, ?_⟩
            intro w' hSw
            (try dsimp only at hSw)
            go_simp
            all_goals (with_reducible rfl)
          · assumption
          try simp only [Act.put, List.setIfInBounds_toArray, List.set_cons_zero, List.set_cons_succ]
          refine wpAnyH_take (i := 14) (oi := ?_) (v := ?_) ?_ ?_ ?_ ?_ ?_ ?_ ?_ ?_
          rotate_left 2
          · simp only [List.getElem?_toArray, List.getElem?_cons_succ, List.getElem?_cons_zero]; rfl
          · kernel_rfl
          · kernel_rfl
          · kernel_rfl
          · exact fun _ _ _ h => h
          · refine Or.inl ⟨by rfl, ?_⟩
            intro w' hSw
            (try dsimp only at hSw)
            go_simp
            all_goals (with_reducible rfl)
          · assumption
          try simp only [Act.put, List.setIfInBounds_toArray, List.set_cons_zero, List.set_cons_succ]
          refine wpAnyH_take (i := 15) (oi := ?_) (v := ?_) ?_ ?_ ?_ ?_ ?_ ?_ ?_ ?_
          rotate_left 2
          · simp only [List.getElem?_toArray, List.getElem?_cons_succ, List.getElem?_cons_zero]; rfl
          · kernel_rfl
          · kernel_rfl
          · kernel_rfl
          · exact fun _ _ _ h => h
          · refine Or.inl ⟨by rfl, ?_⟩
            intro w' hSw
            (try dsimp only at hSw)
            go_simp
            all_goals (with_reducible rfl)
          · assumption
          try simp only [Act.put, List.setIfInBounds_toArray, List.set_cons_zero, List.set_cons_succ]
          refine wpAnyH_take (i := 16) (oi := ?_) (v := undef) ?_ ?_ ?_ ?_ ?_ ?_ ?_ ?_
          rotate_left 1
          · simp only [List.getElem?_toArray, List.getElem?_cons_succ, List.getElem?_cons_zero]; rfl
          · kernel_rfl
          · kernel_rfl
          · kernel_rfl
          · exact fun _ _ _ h => h
          · exact Or.inr ⟨by kernel_rfl, rfl⟩
          · assumption
          try simp only [Act.put, List.setIfInBounds_toArray, List.set_cons_zero, List.set_cons_succ]
          refine wpAnyH_take (i := 17) (oi := ?_) (v := undef) ?_ ?_ ?_ ?_ ?_ ?_ ?_ ?_
          rotate_left 1
          · simp only [List.getElem?_toArray, List.getElem?_cons_succ, List.getElem?_cons_zero]; rfl
          · kernel_rfl
          · kernel_rfl
          · kernel_rfl
          · exact fun _ _ _ h => h
          · exact Or.inr ⟨by kernel_rfl, rfl⟩
          · assumption
          try simp only [Act.put, List.setIfInBounds_toArray, List.set_cons_zero, List.set_cons_succ]
          refine wpAnyH_take (i := 18) (oi := ?_) (v := undef) ?_ ?_ ?_ ?_ ?_ ?_ ?_ ?_
          rotate_left 1
          · simp only [List.getElem?_toArray, List.getElem?_cons_succ, List.getElem?_cons_zero]; rfl
          · kernel_rfl
          · kernel_rfl
          · kernel_rfl
          · exact fun _ _ _ h => h
          · exact Or.inr ⟨by kernel_rfl, rfl⟩
          · assumption
          try simp only [Act.put, List.setIfInBounds_toArray, List.set_cons_zero, List.set_cons_succ]
          refine wpAnyH_take (i := 19) (oi := ?_) (v := undef) ?_ ?_ ?_ ?_ ?_ ?_ ?_ ?_
          rotate_left 1
          · simp only [List.getElem?_toArray, List.getElem?_cons_succ, List.getElem?_cons_zero]; rfl
          · kernel_rfl
          · kernel_rfl
          · kernel_rfl
          · exact fun _ _ _ h => h
          · exact Or.inr ⟨by kernel_rfl, rfl⟩
          · assumption
          try simp only [Act.put, List.setIfInBounds_toArray, List.set_cons_zero, List.set_cons_succ]
          refine wpAnyH_take (i := 20) (oi := ?_) (v := undef) ?_ ?_ ?_ ?_ ?_ ?_ ?_ ?_
          rotate_left 1
          · simp only [List.getElem?_toArray, List.getElem?_cons_succ, List.getElem?_cons_zero]; rfl
          · kernel_rfl
          · kernel_rfl
          · kernel_rfl
          · exact fun _ _ _ h => h
          · exact Or.inr ⟨by kernel_rfl, rfl⟩
          · assumption
          try simp only [Act.put, List.setIfInBounds_toArray, List.set_cons_zero, List.set_cons_succ]
          refine wpAnyH_take (i := 21) (oi := ?_) (v := undef) ?_ ?_ ?_ ?_ ?_ ?_ ?_ ?_
          rotate_left 1
          · simp only [List.getElem?_toArray, List.getElem?_cons_succ, List.getElem?_cons_zero]; rfl
          · kernel_rfl
          · kernel_rfl
          · kernel_rfl
          · exact fun _ _ _ h => h
          · exact Or.inr ⟨by kernel_rfl, rfl⟩
          · assumption
          try simp only [Act.put, List.setIfInBounds_toArray, List.set_cons_zero, List.set_cons_succ]
          refine wpAnyH_take (i := 22) (oi := ?_) (v := undef) ?_ ?_ ?_ ?_ ?_ ?_ ?_ ?_
          rotate_left 1
          · simp only [List.getElem?_toArray, List.getElem?_cons_succ, List.getElem?_cons_zero]; rfl
          · kernel_rfl
          · kernel_rfl
          · kernel_rfl
          · exact fun _ _ _ h => h
          · exact Or.inr ⟨by kernel_rfl, rfl⟩
          · assumption
          try simp only [Act.put, List.setIfInBounds_toArray, List.set_cons_zero, List.set_cons_succ]
          refine wpAnyH_take (i := 23) (oi := ?_) (v := undef) ?_ ?_ ?_ ?_ ?_ ?_ ?_ ?_
          rotate_left 1
          · simp only [List.getElem?_toArray, List.getElem?_cons_succ, List.getElem?_cons_zero]; rfl
          · kernel_rfl
          · kernel_rfl
          · kernel_rfl
          · exact fun _ _ _ h => h
          · exact Or.inr ⟨by kernel_rfl, rfl⟩
          · assumption
          try simp only [Act.put, List.setIfInBounds_toArray, List.set_cons_zero, List.set_cons_succ]
          refine wpAnyH_take (i := 24) (oi := ?_) (v := undef) ?_ ?_ ?_ ?_ ?_ ?_ ?_ ?_
          rotate_left 1
          · simp only [List.getElem?_toArray, List.getElem?_cons_succ, List.getElem?_cons_zero]; rfl
          · kernel_rfl
          · kernel_rfl
          · kernel_rfl
          · exact fun _ _ _ h => h
          · exact Or.inr ⟨by kernel_rfl, rfl⟩
          · assumption
          try simp only [Act.put, List.setIfInBounds_toArray, List.set_cons_zero, List.set_cons_succ]
          refine wpAnyH_take (i := 25) (oi := ?_) (v := undef) ?_ ?_ ?_ ?_ ?_ ?_ ?_ ?_
          rotate_left 1
          · simp only [List.getElem?_toArray, List.getElem?_cons_succ, List.getElem?_cons_zero]; rfl
          · kernel_rfl
          · kernel_rfl
          · kernel_rfl
          · exact fun _ _ _ h => h
          · exact Or.inr ⟨by kernel_rfl, rfl⟩
          · assumption
          try simp only [Act.put, List.setIfInBounds_toArray, List.set_cons_zero, List.set_cons_succ]
          refine wpAnyH_take (i := 26) (oi := ?_) (v := undef) ?_ ?_ ?_ ?_ ?_ ?_ ?_ ?_
          rotate_left 1
          · simp only [List.getElem?_toArray, List.getElem?_cons_succ, List.getElem?_cons_zero]; rfl
          · kernel_rfl
          · kernel_rfl
          · kernel_rfl
          · exact fun _ _ _ h => h
          · exact Or.inr ⟨by kernel_rfl, rfl⟩
          · assumption
          try simp only [Act.put, List.setIfInBounds_toArray, List.set_cons_zero, List.set_cons_succ]
          refine wpAnyH_take (i := 27) (oi := ?_) (v := undef) ?_ ?_ ?_ ?_ ?_ ?_ ?_ ?_
          rotate_left 1
          · simp only [List.getElem?_toArray, List.getElem?_cons_succ, List.getElem?_cons_zero]; rfl
          · kernel_rfl
          · kernel_rfl
          · kernel_rfl
          · exact fun _ _ _ h => h
          · exact Or.inr ⟨by kernel_rfl, rfl⟩
          · assumption
          try simp only [Act.put, List.setIfInBounds_toArray, List.set_cons_zero, List.set_cons_succ]
          refine wpAnyH_take (i := 28) (oi := ?_) (v := undef) ?_ ?_ ?_ ?_ ?_ ?_ ?_ ?_
          rotate_left 1
          · simp only [List.getElem?_toArray, List.getElem?_cons_succ, List.getElem?_cons_zero]; rfl
          · kernel_rfl
          · kernel_rfl
          · kernel_rfl
          · exact fun _ _ _ h => h
          · exact Or.inr ⟨by kernel_rfl, rfl⟩
          · assumption
          try simp only [Act.put, List.setIfInBounds_toArray, List.set_cons_zero, List.set_cons_succ]
          refine wpAnyH_take (i := 29) (oi := ?_) (v := undef) ?_ ?_ ?_ ?_ ?_ ?_ ?_ ?_
          rotate_left 1
          · simp only [List.getElem?_toArray, List.getElem?_cons_succ, List.getElem?_cons_zero]; rfl
          · kernel_rfl
          · kernel_rfl
          · kernel_rfl
          · exact fun _ _ _ h => h
          · exact Or.inr ⟨by kernel_rfl, rfl⟩
          · assumption
          try simp only [Act.put, List.setIfInBounds_toArray, List.set_cons_zero, List.set_cons_succ]
          refine wpAnyH_take (i := 30) (oi := ?_) (v := ?_) ?_ ?_ ?_ ?_ ?_ ?_ ?_ ?_
          rotate_left 2
          · simp only [List.getElem?_toArray, List.getElem?_cons_succ, List.getElem?_cons_zero]; rfl
          · kernel_rfl
          · kernel_rfl
          · kernel_rfl
          · exact fun _ _ _ h => h
          · refine Or.inl ⟨by rfl, ?_⟩
            intro w' hSw
            (try dsimp only at hSw)
            go_simp
            all_goals (with_reducible rfl)
          · assumption
          try simp only [Act.put, List.setIfInBounds_toArray, List.set_cons_zero, List.set_cons_succ]
          refine wpAnyH_take (i := 31) (oi := ?_) (v := ?_) ?_ ?_ ?_ ?_ ?_ ?_ ?_ ?_
          rotate_left 2
          · simp only [List.getElem?_toArray, List.getElem?_cons_succ, List.getElem?_cons_zero]; rfl
          · kernel_rfl
          · kernel_rfl
          · kernel_rfl
          · exact fun _ _ _ h => h
          · refine Or.inl ⟨by rfl, ?_⟩
            intro w' hSw
            (try dsimp only at hSw)
            go_simp
            all_goals (with_reducible rfl)
          · assumption
          try simp only [Act.put, List.setIfInBounds_toArray, List.set_cons_zero, List.set_cons_succ]
          refine wpAnyH_take (i := 32) (oi := ?_) (v := ?_) ?_ ?_ ?_ ?_ ?_ ?_ ?_ ?_
          rotate_left 2
          · simp only [List.getElem?_toArray, List.getElem?_cons_succ, List.getElem?_cons_zero]; rfl
          · kernel_rfl
          · kernel_rfl
          · kernel_rfl
          · exact fun _ _ _ h => h
          · refine Or.inl ⟨by rfl, ?_⟩
            intro w' hSw
            (try dsimp only at hSw)
            go_simp
            all_goals (with_reducible rfl)
          · assumption
          try simp only [Act.put, List.setIfInBounds_toArray, List.set_cons_zero, List.set_cons_succ]
          refine wpAnyH_done (by kernel_rfl) ?_ _
          clear hHeld
          go_wp2
          go_ret
          exact ⟨rfl, below_draws BLH.out 1⟩
end Go.Proofs.Ytfpknklnbgmflaa
