import Derived.Test.YtbgcpljekcagiaaGreatLmPk
import Derived.Test.YtbgcpljekcagiaaGreatZLmN
import Derived.Test.YtbgcpljekcagiaaGreatZLiftS
/- The law LimiterAlone of layer 12 (limiter), walked. -/
namespace Go.Proofs.YtbgcpljekcagiaaGreat
set_option linter.unusedSimpArgs false
set_option linter.unusedVariables false
set_option maxRecDepth 100000
open Go.ChangeShapes Go.WideShapes Go.ChangeAt Go.RowKit
open Ar (inR)
set_option maxRecDepth 100000 in
set_option maxHeartbeats 6000000 in
theorem lmalone_law (w : World) (a b c d e f g h : Int) (sm : Bool) (A : Option Addr) (n c0 : Nat) (zs : List Int) (A' : Option Addr) (n' c0' : Nat) (zs' : List Int) (A2 : Option Addr) (n2 c2 : Nat) (L : List Cl) (hpl : RuleOK a b c d e f g h) (hr : RdI w .u64 A n c0 zs) (hr' : RdI w .u64 A' n' c0' zs') (hr2 : RdL w A2 n2 c2 4 encCl L) (hok : ∀ a ∈ L, okCl a) :
    Calls Tryz.prog 9 #[planV a b c d e f g h sm, .agg #[.slice A n c0, .slice A' n' c0'], .slice A2 n2 c2] w fun e w' => e = .returned (.bool true) ∧ Below w.heap.size w w' := by
  clear hpl
  have hmx2 := hr2.max
  unfold maxLen at hmx2
  have hcp2 := hr2.cap
  have HR2 := Lib.hid hr2
  have HO := Lib.hid hok
  have hmx1 := hr.max
  unfold maxLen at hmx1
  have hcp1 := hr.cap
  have HR1 := Lib.hid hr
  have HR1' := Lib.hid hr'
  clear hr hr'
  clear hr2 hok
  obtain ⟨w1, hw1, k1, l1', s1⟩ := box_new w (planC a b c d e f g h sm) 23
  obtain ⟨w1b, hw1b, k1b, l1b, s1b⟩ := box_new w1 #[.slice A n c0, .slice A' n' c0'] 71
  obtain ⟨pl, hpl⟩ : ∃ x, x = w.heap.size := ⟨_, rfl⟩
  obtain ⟨db, hdb⟩ : ∃ x, x = w1.heap.size := ⟨_, rfl⟩
  rw [← hpl] at k1
  rw [← hdb] at k1b
  have K2 := Lib.hid (And.intro (k1.keep l1b) (below_in l1' l1b))
  have D2 := Lib.hid k1b
  have HB := Lib.hid (And.intro hpl hdb)
  clear k1 l1' s1 k1b l1b s1b
  go_enter Tryz.func9, Tryz.ntmps9
  go_upto_region 1 with (fail)
  rw [← HB.out.1, ← HB.out.2]
  clear hw1 hw1b hpl hdb
  go_upto_region 3 with (go_at_call 15; ((refine (lmfit_any _).mono ?_); rintro e w3 ⟨rfl, b3⟩; have K3 := Lib.hid (And.intro (K2.out.1.keep b3) (below_in K2.out.2 b3)); have D3 := Lib.hid (D2.out.keep b3); clear b3))
  have kd := D3.out.rd
  obtain ⟨nn, hnn⟩ : ∃ z, z = IntKind.i64.wrap ((n : Int) + (n' : Int)) := ⟨_, rfl⟩
  have e60 : IntKind.i64.wrap ((n : Int) + (n' : Int)) = nn := hnn.symm
  clear hnn
  by_cases hn60 : 60 < nn
  · have t60 : decide ((60 : Int) < nn) = true := decide_eq_true hn60
    clear hn60
    go_wp2
    go_ret
    exact ⟨rfl, K3.out.2⟩
  have t60 : decide ((60 : Int) < nn) = false := decide_eq_false hn60
  clear hn60
  have CLi := Lib.hid (lmlight_any A2 n2 c2 L w3 (HR2.out.below K3.out.2) HO.out)
  cases hlb : lightC L with
  | false =>
    rw [hlb] at CLi
    go_wp2_with (go_at_call 16; ((with_reducible refine CLi.out.mono ?_); rintro e w4 ⟨rfl, b4⟩; have T4 := Lib.hid (below_in K3.out.2 b4); clear b4))
    go_ret
    exact ⟨rfl, T4.out⟩
  | true =>
  rw [hlb] at CLi
  have hlc := lightC_at hlb
  have hlen := hlc.1
  have HLK := Lib.hid hlc.2
  have hln := HR2.out.len
  have hb2 : (n2 : Int) ≤ 150 := by omega
  clear hlb hlen hln hlc
  go_upto_region 5 with (go_at_call 16; ((with_reducible refine CLi.out.mono ?_); rintro e w4 ⟨rfl, b4⟩; have K4 := Lib.hid (And.intro (K3.out.1.keep b4) (below_in K3.out.2 b4)); have D4 := Lib.hid (D3.out.keep b4); clear b4))
  clear CLi kd e60
  have kp := K4.out.1.rd
  have CRu := Lib.hid (lmrule_any a b c d e f g h sm w4)
  obtain ⟨Li, hLm⟩ : ∃ x, x = lqL a := ⟨_, rfl⟩
  obtain ⟨Wd, hWd⟩ : ∃ x, x = ((lqS b * lqN d : Nat) : Int) := ⟨_, rfl⟩
  obtain ⟨Bu, hBu⟩ : ∃ x, x = lqB a c := ⟨_, rfl⟩
  obtain ⟨Sl, hSl⟩ : ∃ x, x = ((lqN d : Nat) : Int) := ⟨_, rfl⟩
  obtain ⟨Ce, hCe⟩ : ∃ x, x = ((lqC e : Nat) : Int) := ⟨_, rfl⟩
  obtain ⟨kR, hkR⟩ : ∃ x, x = ((lqR f : Nat) : Int) := ⟨_, rfl⟩
  obtain ⟨Wi, hWi⟩ : ∃ x, x = ((lqW g : Nat) : Int) := ⟨_, rfl⟩
  obtain ⟨Tr, hTr⟩ : ∃ x, x = ((lqT h : Nat) : Int) := ⟨_, rfl⟩
  obtain ⟨smm, hsm⟩ : ∃ x, x = lqM sm d := ⟨_, rfl⟩
  rw [← hLm, ← hWd, ← hBu, ← hSl, ← hCe, ← hkR, ← hWi, ← hTr, ← hsm] at CRu
  have CNw := Lib.hid (fun wx (hx : Below w.heap.size w wx) => show Calls Tryz.prog 18 #[rlV Li Wd Bu Sl Ce kR Wi Tr smm, .slice A n c0] wx _ from by rw [hLm, hWd, hBu, hSl, hCe, hkR, hWi, hTr, hsm]; exact lmplan_new a b c d e f g h (lqM sm d) A n c0 zs wx (HR1.out.below hx))
  obtain ⟨kR2, hkR2⟩ : ∃ x, x = ((lqR ((lqR f : Nat) : Int) : Nat) : Int) := ⟨_, rfl⟩
  obtain ⟨Wi2, hWi2⟩ : ∃ x, x = ((lqW ((lqW g : Nat) : Int) : Nat) : Int) := ⟨_, rfl⟩
  have CNw2 := Lib.hid (fun wx (hx : Below w.heap.size w wx) => show Calls Tryz.prog 18 #[rlV Li Wd Bu Sl Ce kR2 Wi2 Tr smm, .slice A' n' c0'] wx _ from by rw [hLm, hWd, hBu, hSl, hCe, hkR2, hWi2, hTr, hsm]; exact lmplan_new a b c d e ((lqR f : Nat) : Int) ((lqW g : Nat) : Int) h (lqM sm d) A' n' c0' zs' wx (HR1'.out.below hx))
  obtain ⟨mk, hmk⟩ : ∃ z, z = kR % 4 := ⟨_, rfl⟩
  obtain ⟨mw, hmw⟩ : ∃ z, z = Wi % 16 := ⟨_, rfl⟩
  have ek1 : bits .and .i64 kR 3 = mk := by rw [hmk]; exact i64_mask2 kR
  have ek2 : bits .and .i64 Wi 15 = mw := by rw [hmw]; exact i64_mask4 Wi
  have ek3 : IntKind.i64.wrap (mk + 1) = kR2 := by rw [IntKind.wrap_i64, hkR2]; rw [hkR] at hmk; unfold lqR at *; omega
  have ek4 : IntKind.i64.wrap (mw + 1) = Wi2 := by rw [IntKind.wrap_i64, hWi2]; rw [hWi] at hmw; unfold lqW at *; omega
  have EK := Lib.hid (And.intro ek1 (And.intro ek2 (And.intro ek3 ek4)))
  clear hkR2 hWi2 hmk hmw ek1 ek2 ek3 ek4
  have HP := Lib.hid (And.intro hLm (And.intro hWd (And.intro hBu (And.intro hSl (And.intro hCe (And.intro hkR (And.intro hWi (And.intro hTr hsm))))))))
  clear hLm hWd hBu hSl hCe hkR hWi hTr hsm
  go_upto_region 6 with (go_at_call 17; ((with_reducible refine CRu.out.mono ?_); rintro e w5 ⟨rfl, b5⟩; obtain ⟨y1, y2, ey1, kr9, kw9, ey2, bl9, kc9⟩ := box9R w5 (.int .i64 Li) (.int .i64 Wd) (.int .i64 Bu) (.int .i64 Sl) (.int .i64 Ce) (.int .i64 kR) (.int .i64 Wi) (.int .i64 Tr) (.bool smm); have K6 := Lib.hid (And.intro kc9 (below_in (below_in K4.out.2 b5) bl9)); have D6 := Lib.hid ((D4.out.keep b5).keep bl9); clear b5 bl9 kc9))
  clear ey1 kr9 kw9 ey2 kp CRu
  obtain ⟨rb, hrb⟩ : ∃ rb, rb = w5.heap.size := ⟨_, rfl⟩
  rw [← hrb] at K6 ⊢
  clear hrb
  have kru := K6.out.1.rd
  obtain ⟨x1, w6, ex1, kr9, kw9, ex2, bl9, kc9⟩ := box9R y2 (.int .i64 Li) (.int .i64 Wd) (.int .i64 Bu) (.int .i64 Sl) (.int .i64 Ce) (.int .i64 kR) (.int .i64 Wi) (.int .i64 Tr) (.bool smm)
  have K7 := Lib.hid (And.intro kc9 (And.intro (K6.out.1.keep bl9) (And.intro (D6.out.keep bl9) (below_in K6.out.2 bl9))))
  clear kc9 bl9
  go_upto_region 7 with (fail)
  clear ex1 kr9 kw9 ex2 kru
  have S6 := Lib.hid (show rb < y2.heap.size ∧ db < y2.heap.size ∧ w.heap.size ≤ y2.heap.size from ⟨lt_of_block K6.out.1, lt_of_block D6.out, K6.out.2.size⟩)
  obtain ⟨sb, hsb⟩ : ∃ sb, sb = y2.heap.size := ⟨_, rfl⟩
  rw [← hsb] at K7 S6 ⊢
  clear hsb
  have ek1 := EK.out.1
  have ek2 := EK.out.2.1
  have ek3 := EK.out.2.2.1
  have ek4 := EK.out.2.2.2
  have kru := K7.out.2.1.rd
  have ksb := K7.out.1.rd
  have ksw := K7.out.1.wr
  go_region
  clear ek1 ek2 ek3 ek4 kru ksb ksw
  have e2 : (w6.setCell ⟨sb, 5, none⟩ (.int .i64 kR2)).setCell ⟨sb, 6, none⟩ (.int .i64 Wi2) = setObj w6 sb (.cells #[.int .i64 Li, .int .i64 Wd, .int .i64 Bu, .int .i64 Sl, .int .i64 Ce, .int .i64 kR2, .int .i64 Wi2, .int .i64 Tr, .bool smm] 29 (0, 0)) := by
    have hl := lt_of_block K7.out.1
    rw [setCell_obj K7.out.1]
    simp only [setCell_in hl, List.setIfInBounds_toArray, List.set_cons_zero, List.set_cons_succ]
  rw [e2]
  clear e2
  have f7 : Fr (fun b => b = sb) w6 (setObj w6 sb (.cells #[.int .i64 Li, .int .i64 Wd, .int .i64 Bu, .int .i64 Sl, .int .i64 Ce, .int .i64 kR2, .int .i64 Wi2, .int .i64 Tr, .bool smm] 29 (0, 0))) := Fr.setObj (F := fun b => b = sb) (Fr.refl _ _) rfl _
  have k7 : Blk (setObj w6 sb (.cells #[.int .i64 Li, .int .i64 Wd, .int .i64 Bu, .int .i64 Sl, .int .i64 Ce, .int .i64 kR2, .int .i64 Wi2, .int .i64 Tr, .bool smm] 29 (0, 0))) sb 29 #[.int .i64 Li, .int .i64 Wd, .int .i64 Bu, .int .i64 Sl, .int .i64 Ce, .int .i64 kR2, .int .i64 Wi2, .int .i64 Tr, .bool smm] := setObj_at (lt_of_block K7.out.1) _
  generalize setObj w6 sb (.cells #[.int .i64 Li, .int .i64 Wd, .int .i64 Bu, .int .i64 Sl, .int .i64 Ce, .int .i64 kR2, .int .i64 Wi2, .int .i64 Tr, .bool smm] 29 (0, 0)) = w7 at f7 k7 ⊢
  have K8' := Lib.hid (And.intro k7.drew (And.intro (K7.out.2.1.fr f7 (by have := S6.out; omega)).drew (And.intro (K7.out.2.2.1.fr f7 (by have := S6.out; omega)).drew (show Below w.heap.size w w7.drew from below_draws (K7.out.2.2.2.trans (f7.below K7.out.2.2.2.size (fun b hb => by have h1 : b = sb := hb; have h2 := S6.out; omega))) 1))))
  clear f7 k7
  generalize w7.drew = y2 at K8' ⊢
  go_upto_region 8 with (fail)
  have BN := Lib.hid (show Below y2.heap.size y2 y2.drew from below_draws (Below.refl _ _) 1)
  have SB := Lib.hid (fun wx (hb : Below y2.heap.size y2 wx) => show (∀ j, wx.cell? ⟨rb, j, none⟩ = (#[.int .i64 Li, .int .i64 Wd, .int .i64 Bu, .int .i64 Sl, .int .i64 Ce, .int .i64 kR, .int .i64 Wi, .int .i64 Tr, .bool smm] : Array Value)[j]?) ∧ (∀ j, wx.cell? ⟨sb, j, none⟩ = (#[.int .i64 Li, .int .i64 Wd, .int .i64 Bu, .int .i64 Sl, .int .i64 Ce, .int .i64 kR2, .int .i64 Wi2, .int .i64 Tr, .bool smm] : Array Value)[j]?) ∧ (∀ j, wx.cell? ⟨db, j, none⟩ = (#[.slice A n c0, .slice A' n' c0'] : Array Value)[j]?) from ⟨(K8'.out.2.1.keep hb).rd, (K8'.out.1.keep hb).rd, (K8'.out.2.2.1.keep hb).rd⟩)
  have st := SB.out _ BN.out
  refine wp_region_held_drew (S := fun wx => (∀ j, wx.cell? ⟨rb, j, none⟩ = (#[.int .i64 Li, .int .i64 Wd, .int .i64 Bu, .int .i64 Sl, .int .i64 Ce, .int .i64 kR, .int .i64 Wi, .int .i64 Tr, .bool smm] : Array Value)[j]?) ∧ (∀ j, wx.cell? ⟨sb, j, none⟩ = (#[.int .i64 Li, .int .i64 Wd, .int .i64 Bu, .int .i64 Sl, .int .i64 Ce, .int .i64 kR2, .int .i64 Wi2, .int .i64 Tr, .bool smm] : Array Value)[j]?) ∧ (∀ j, wx.cell? ⟨db, j, none⟩ = (#[.slice A n c0, .slice A' n' c0'] : Array Value)[j]?)) (by kernel_rfl) st (fun hHeld => ?_)
  clear st
  refine wpAnyH_take (i := 0) (oi := ?_) (v := ?_) ?_ ?_ ?_ ?_ ?_ ?_ ?_ ?_
  rotate_left 2
  · simp only [List.getElem?_toArray, List.getElem?_cons_succ, List.getElem?_cons_zero]; rfl
  · kernel_rfl
  · kernel_rfl
  · kernel_rfl
  · exact fun _ _ _ h => h
  · refine Or.inl ⟨by rfl, ?_⟩
    intro w' hSw
    (try dsimp only at hSw)
    go_simp
    all_goals (with_reducible rfl)
  · assumption
  try simp only [Act.put, List.setIfInBounds_toArray, List.set_cons_zero, List.set_cons_succ]
  refine wpAnyH_take (i := 1) (oi := ?_) (v := ?_) ?_ ?_ ?_ ?_ ?_ ?_ ?_ ?_
  rotate_left 2
  · simp only [List.getElem?_toArray, List.getElem?_cons_succ, List.getElem?_cons_zero]; rfl
  · kernel_rfl
  · kernel_rfl
  · kernel_rfl
  · exact fun _ _ _ h => h
  · refine Or.inl ⟨by rfl, ?_⟩
    intro w' hSw
    (try dsimp only at hSw)
    go_simp
    all_goals (with_reducible rfl)
  · assumption
  try simp only [Act.put, List.setIfInBounds_toArray, List.set_cons_zero, List.set_cons_succ]
  refine wpAnyH_take (i := 2) (oi := ?_) (v := ?_) ?_ ?_ ?_ ?_ ?_ ?_ ?_ ?_
  rotate_left 2
  · simp only [List.getElem?_toArray, List.getElem?_cons_succ, List.getElem?_cons_zero]; rfl
  · kernel_rfl
  · kernel_rfl
  · kernel_rfl
  · exact fun _ _ _ h => h
  · refine Or.inl ⟨by rfl, ?_⟩
    intro w' hSw
    (try dsimp only at hSw)
    go_simp
    all_goals (with_reducible rfl)
  · assumption
  try simp only [Act.put, List.setIfInBounds_toArray, List.set_cons_zero, List.set_cons_succ]
  refine wpAnyH_take (i := 4) (oi := ?_) (v := ?_) ?_ ?_ ?_ ?_ ?_ ?_ ?_ ?_
  rotate_left 2
  · simp only [List.getElem?_toArray, List.getElem?_cons_succ, List.getElem?_cons_zero]; rfl
  · kernel_rfl
  · kernel_rfl
  · kernel_rfl
  · exact fun _ _ _ h => h
  · refine Or.inl ⟨by rfl, ?_⟩
    intro w' hSw
    (try dsimp only at hSw)
    go_simp
    all_goals (with_reducible rfl)
  · assumption
  try simp only [Act.put, List.setIfInBounds_toArray, List.set_cons_zero, List.set_cons_succ]
  refine wpAnyH_take (i := 5) (oi := ?_) (v := ?_) ?_ ?_ ?_ ?_ ?_ ?_ ?_ ?_
  rotate_left 2
  · simp only [List.getElem?_toArray, List.getElem?_cons_succ, List.getElem?_cons_zero]; rfl
  · kernel_rfl
  · kernel_rfl
  · kernel_rfl
  · exact fun _ _ _ h => h
  · refine Or.inl ⟨by rfl, ?_⟩
    intro w' hSw
    (try dsimp only at hSw)
    go_simp
    all_goals (with_reducible rfl)
  · assumption
  try simp only [Act.put, List.setIfInBounds_toArray, List.set_cons_zero, List.set_cons_succ]
  refine wpAnyH_take (i := 6) (oi := ?_) (v := ?_) ?_ ?_ ?_ ?_ ?_ ?_ ?_ ?_
  rotate_left 2
  · simp only [List.getElem?_toArray, List.getElem?_cons_succ, List.getElem?_cons_zero]; rfl
  · kernel_rfl
  · kernel_rfl
  · kernel_rfl
  · exact fun _ _ _ h => h
  · refine Or.inl ⟨by rfl, ?_⟩
    intro w' hSw
    (try dsimp only at hSw)
    go_simp
    all_goals (with_reducible rfl)
  · assumption
  try simp only [Act.put, List.setIfInBounds_toArray, List.set_cons_zero, List.set_cons_succ]
  refine wpAnyH_ready (rs := [3]) (by kernel_rfl) (by simp) ?_
  refine AllReadyH.cons (o := ?_) ?_ ?_ ?_
  rotate_left 1
  · simp only [List.getElem?_toArray, List.getElem?_cons_succ, List.getElem?_cons_zero]; rfl
  rotate_left 1
  · exact AllReadyH.nil
  intro K hK
  go_simp
  ((with_reducible refine (CNw.out _ (below_in K8'.out.2.2.2 BN.out)).mono ?_); rintro v w7 ⟨N1, rfl, a7, p7, n7, b7⟩; have P7 := Lib.hid p7; have M7 := Lib.hid (G.below_on BN.out b7); have A7 := Lib.hid (And.intro a7 (show ∀ b, N1.all b → y2.heap.size ≤ b from n7)); clear a7 p7 n7 b7)
  refine hK.out _ _ (SB.out _ M7.out) (fun hHeld => ?_)
  clear hK K
  try simp only [Act.put, List.setIfInBounds_toArray, List.set_cons_zero, List.set_cons_succ]
  refine wpAnyH_ready (rs := [7]) (by kernel_rfl) (by simp) ?_
  refine AllReadyH.cons (o := ?_) ?_ ?_ ?_
  rotate_left 1
  · simp only [List.getElem?_toArray, List.getElem?_cons_succ, List.getElem?_cons_zero]; rfl
  rotate_left 1
  · exact AllReadyH.nil
  intro K hK
  go_simp
  ((with_reducible refine (CNw2.out _ (below_in K8'.out.2.2.2 M7.out)).mono ?_); rintro v w8 ⟨N2, rfl, a8, p8, n8, b8⟩; have P8 := Lib.hid p8; have M8 := Lib.hid (G.below_on M7.out b8); have G7 := Lib.hid (show LmTwo w w8 N1 N2 (lmZ (lqC e)) (lmZ (lqC e)) 0 0 0 from ⟨⟨A7.out.1.keep b8, lmplan_I A7.out.1 P7.out, fun b hb => Nat.le_trans K8'.out.2.2.2.size (A7.out.2 b hb), below_in K8'.out.2.2.2 M8.out⟩, ⟨a8, lmplan_I a8 p8, fun b hb => Nat.le_trans K8'.out.2.2.2.size (Nat.le_trans M7.out.size (n8 b hb)), below_in K8'.out.2.2.2 M8.out⟩, fun k hk1 hk2 => by have h1 := A7.out.1.lt k hk1; have h2 := n8 k hk2; omega⟩); have R7 := Lib.hid (K8'.out.2.1.keep M8.out); have NR7 := Lib.hid (show (¬ N1.all rb) ∧ ¬ N2.all rb from ⟨fun hb => by have h1 := A7.out.2 rb hb; have h2 := lt_of_block K8'.out.2.1; omega, fun hb => by have h1 := n8 rb hb; have h2 := lt_of_block K8'.out.2.1; have h3 := M7.out.size; omega⟩); clear a8 p8 n8 b8)
  refine hK.out _ _ (SB.out _ M8.out) (fun hHeld => ?_)
  clear hK K
  try simp only [Act.put, List.setIfInBounds_toArray, List.set_cons_zero, List.set_cons_succ]
  refine wpAnyH_take (i := 8) (oi := ?_) (v := ?_) ?_ ?_ ?_ ?_ ?_ ?_ ?_ ?_
  rotate_left 2
  · simp only [List.getElem?_toArray, List.getElem?_cons_succ, List.getElem?_cons_zero]; rfl
  · kernel_rfl
  · kernel_rfl
  · kernel_rfl
  · exact fun _ _ _ h => h
  · refine Or.inl ⟨by rfl, ?_⟩
    intro w' hSw
    (try dsimp only at hSw)
    go_simp
    all_goals (with_reducible rfl)
  · assumption
  try simp only [Act.put, List.setIfInBounds_toArray, List.set_cons_zero, List.set_cons_succ]
  refine wpAnyH_take (i := 9) (oi := ?_) (v := ?_) ?_ ?_ ?_ ?_ ?_ ?_ ?_ ?_
  rotate_left 2
  · simp only [List.getElem?_toArray, List.getElem?_cons_succ, List.getElem?_cons_zero]; rfl
  · kernel_rfl
  · kernel_rfl
  · kernel_rfl
  · exact fun _ _ _ h => h
  · refine Or.inl ⟨by rfl, ?_⟩
    intro w' hSw
    (try dsimp only at hSw)
    go_simp
    all_goals (with_reducible rfl)
  · assumption
  try simp only [Act.put, List.setIfInBounds_toArray, List.set_cons_zero, List.set_cons_succ]
  refine wpAnyH_done (by kernel_rfl) ?_ _
  clear hHeld CNw CNw2
  have HPB := Lib.hid (show LmB N1 ∧ N1.B = Bu ∧ 1 ≤ Bu ∧ Bu ≤ 32 from by rw [HP.out.2.2.1]; exact lmplan_B P7.out)
  have HF := Lib.hid (show LmF N1 N2 from ⟨P7.out.pU.trans P8.out.pU.symm, P7.out.pW.trans P8.out.pW.symm, P7.out.pB.trans P8.out.pB.symm, P7.out.pL.trans P8.out.pL.symm, P7.out.pC.trans P8.out.pC.symm, P7.out.pT.trans P8.out.pT.symm, by rw [P7.out.ps]; unfold lqS; omega, by rw [P8.out.ps]; unfold lqS; omega⟩)
  have HQN := Lib.hid (show N1.Q.N.n = lqC e ∧ Ce = ((lqC e : Nat) : Int) ∧ 1 ≤ lqC e from ⟨P7.out.pC, HP.out.2.2.2.2.1, by unfold lqC; omega⟩)
  go_wp2
  go_loopg [57, 11] n2 (fun kk si sn wr => ∃ (i : Nat) (t : Int) (s : LmS), i ≤ n2 ∧ Hid (kk = n2 - i) ∧ si = .int .i64 (i : Int) ∧ sn = .int .i64 t ∧ Hid (0 ≤ t ∧ t ≤ 1023 * (i : Int)) ∧ Hid (Aln (lqC e) s) ∧ Hid (LmTwo w wr N1 N2 s s t t (2097153 * (i : Int))) ∧ Hid (Blk wr rb 29 #[.int .i64 Li, .int .i64 Wd, .int .i64 Bu, .int .i64 Sl, .int .i64 Ce, .int .i64 kR, .int .i64 Wi, .int .i64 Tr, .bool smm]))
  case atStart => exact ⟨0, 0, lmZ (lqC e), by omega, Lib.hid rfl, rfl, rfl, Lib.hid (by omega), Lib.hid (Aln.new HQN.out.2.2), G7, R7⟩
  case round =>
    obtain ⟨i, t, s, hi, HKK, rfl, rfl, HT, HAN, HG, HRB⟩ := hrel
    by_cases hin : i < n2
    · have hl2 := HR2.out.len
      obtain ⟨b', off, rfl, hbl, hcl⟩ := (HR2.out.below HG.out.a.bl).at_ (by omega)
      obtain ⟨⟨gp, cs, ky, pk⟩, ha⟩ : ∃ a, L[i]? = some a := ⟨_, List.getElem?_eq_getElem (by omega)⟩
      have HKY := Lib.hid (HLK.out _ (List.mem_of_getElem? ha))
      have hky : ky.size ≤ 64 := HKY.out
      have HCS := Lib.hid (HO.out _ (List.mem_of_getElem? ha))
      have kr0 : wr.cell? ⟨b', off + i * 4, none⟩ = some (.int .i64 gp) := hcl i _ ha 0 (by omega)
      have kr1 : wr.cell? ⟨b', off + i * 4 + 1, none⟩ = some (.int .i64 cs) := hcl i _ ha 1 (by omega)
      have kr2 : wr.cell? ⟨b', off + i * 4 + 2, none⟩ = some (.string ky) := hcl i _ ha 2 (by omega)
      have kr3 : wr.cell? ⟨b', off + i * 4 + 3, none⟩ = some (.bool pk) := hcl i _ ha 3 (by omega)
      obtain ⟨y1, y2, ey1, kr, kw, ey2, bl2, kc2⟩ := box4C wr (.int .i64 gp) (.int .i64 cs) (.string ky) (.bool pk)
      have G6 := Lib.hid (HG.out.keep bl2)
      obtain ⟨bx, hbx⟩ : ∃ bx, bx = wr.heap.size := ⟨_, rfl⟩
      have HBX := Lib.hid (show ((¬ N1.all bx) ∧ ¬ N2.all bx) ∧ w.heap.size ≤ bx ∧ bx < y2.heap.size from ⟨⟨fun hh => by have := HG.out.a.at_.lt bx hh; omega, fun hh => by have := HG.out.b.at_.lt bx hh; omega⟩, by have := HG.out.a.bl.size; omega, by have := lt_of_block kc2; omega⟩)
      rw [← hbx] at kc2
      have kc3 := kc2.rd
      have KC := Lib.hid kc2
      have KRu := Lib.hid (HRB.out.keep bl2)
      have hgb := gapL_bd gp
      obtain ⟨gq, hgq⟩ : ∃ x, x = gapL gp := ⟨_, rfl⟩
      have HGQ := Lib.hid hgq
      have CG := Lib.hid (fun wx => gapL_any gp wx)
      rw [← hgq] at CG hgb
      obtain ⟨t', ht'⟩ : ∃ x, x = t + gq := ⟨_, rfl⟩
      have hT := HT.out
      have et : IntKind.i64.wrap (t + gq) = t' := by rw [IntKind.wrap_i64]; omega
      have HT' := Lib.hid (show (0 ≤ t' ∧ t' ≤ 1023 * ((i : Int) + 1)) ∧ t ≤ t' ∧ t' ≤ 4611686018427380000 ∧ t' = t + gq by omega)
      have CC := Lib.hid (fun wx => costL_any Li Wd Bu Sl Ce kR Wi Tr smm cs ⟨HPB.out.2.2.1, HPB.out.2.2.2⟩ wx)
      have hqb := costL_bd (n := cs) ⟨HPB.out.2.2.1, HPB.out.2.2.2⟩
      obtain ⟨q, hq⟩ : ∃ x, x = costL Bu cs := ⟨_, rfl⟩
      rw [← hq] at CC hqb
      have HQ := Lib.hid (And.intro hqb hq)
      have t2 : (i : Int) < (n2 : Int) := by omega
      have HIN := Lib.hid hin
      clear hl2 hcl hbl bl2 kc2 hgb hgq ht' hT hq hin hqb hky
      go_upto_region 13 with (fail)
      rw [← hbx]
      have HBXS := Lib.hid hbx
      clear kr kw ey1 kr0 kr1 kr2 kr3 ey2 hbx
      have krl := KRu.out.rd
      go_upto_region 15 with (first
        | (go_at_call 20; ((with_reducible refine (CG.out _).mono ?_); rintro v y3 ⟨rfl, rfl⟩))
        | (go_at_call 21; ((with_reducible refine (CC.out _).mono ?_); rintro v y4 ⟨rfl, b4⟩; have G8 := Lib.hid (G6.out.keep b4); have K8 := Lib.hid (KC.out.keep b4); have R8 := Lib.hid (KRu.out.keep b4); have HB8 := Lib.hid (show bx < y4.heap.size from Nat.lt_of_lt_of_le HBX.out.2.2 b4.size); clear b4)))
      clear CG CC et kc3 krl
      have HG8 := Lib.hid (G8.out.mono (t1' := t') (t2' := t') (m' := 2097153 * (i : Int)) (by have := HT'.out; omega) (by have := HT'.out; omega) (by omega))
      have CC1 := Lib.hid (show Calls Tryz.prog 24 #[.pointer (some ⟨N1.l, 0, none⟩), .int .i64 t', .int .i64 0, .string ⟨#[107]⟩, .int .i64 q] y4 _ from lmcheckI (N := N1) (s := s) t' 0 kK q (by show 1 ≤ maxLen; unfold maxLen; omega) (by unfold inR; omega) (by have := HQ.out; unfold inR; omega) y4 HG8.out.a.at_ HG8.out.a.I (by omega))
      have CI1 := Lib.hid (HG8.out.a.I.check (by omega) 0 kK q)
      have CC2 := Lib.hid (fun wx (hx : LmAt wx N2 s) => show Calls Tryz.prog 24 #[.pointer (some ⟨N2.l, 0, none⟩), .int .i64 t', .int .i64 0, .string ⟨#[107]⟩, .int .i64 q] wx _ from lmcheckI (N := N2) (s := s) t' 0 kK q (by show 1 ≤ maxLen; unfold maxLen; omega) (by unfold inR; omega) (by have := HQ.out; unfold inR; omega) wx hx HG8.out.b.I (by omega))
      have CI2 := Lib.hid (HG8.out.b.I.check (by omega) 0 kK q)
      have hal := HAN.out.check (now := t') (held := 0) (cost := q) HF.out HQN.out.1
      rw [← hal.1] at CC2 CI2
      have hel := check_ev (N := N1) (s := s) (now := t') (held := 0) (cost := q) kK
      have ha2 := hal.2
      obtain ⟨⟨s2, ⟨cv, cr, ct⟩, ev⟩, hck⟩ : ∃ z, z = s.check N1 t' 0 kK q := ⟨_, rfl⟩
      rw [← hck] at CC1 CC2 CI1 CI2 hel ha2
      clear hck hal
      dsimp only at CC1 CC2 CI1 CI2 hel ha2
      have HEL := Lib.hid hel
      have HA2 := Lib.hid ha2
      clear hel ha2
      go_upto_region 16 with (go_at_call 24; ((with_reducible refine CC1.out.mono ?_); rintro e' z1 ⟨vv1, rfl, o1, a1, f1⟩; obtain ⟨x11, y11, ex11, kr11, kw11, ey11, b11, k11⟩ := boxA z1 cv cr ct; have G11 := Lib.hid ((HG8.out.op1 a1 CI1.out (by omega) f1 (fun b hb => hb)).keep b11); have R11 := Lib.hid ((R8.out.fr f1 NR7.out.1).keep b11); have C11 := Lib.hid k11; have O11 := Lib.hid (Lm.own_fr (F := fun _ => False) o1 (Fr.of_below b11) (fun k hk => hk.elim)); have Z11 := Lib.hid (show (¬ N2.all z1.heap.size) ∧ (∀ k, N2.all k → k < y4.heap.size) ∧ (∀ k, N1.all k → k < y4.heap.size) ∧ (¬ N1.all z1.heap.size) from ⟨fun hh => by have h1 := HG8.out.b.at_.lt _ hh; have h2 := f1.size; omega, fun k hk => HG8.out.b.at_.lt k hk, fun k hk => HG8.out.a.at_.lt k hk, fun hh => by have h1 := HG8.out.a.at_.lt _ hh; have h2 := f1.size; omega⟩); clear o1 a1 f1 b11 k11))
      clear CC1 ex11 kr11 kw11 ey11
      obtain ⟨ac, hac⟩ : ∃ z, z = z1.heap.size := ⟨_, rfl⟩
      rw [← hac] at C11 Z11 ⊢
      clear hac
      have CC3 := Lib.hid (CC2.out _ G11.out.b.at_)
      go_upto_region 17 with (go_at_call 24; ((with_reducible refine CC3.out.mono ?_); rintro e' z2 ⟨vv2, rfl, o2, a2, f2⟩; obtain ⟨x12, y12, ex12, kr12, kw12, ey12, b12, k12⟩ := boxA z2 cv cr ct; have G12 := Lib.hid ((G11.out.op2 a2 CI2.out (Int.le_refl _) f2 (fun b hb => hb)).keep b12); have R12 := Lib.hid ((R11.out.fr f2 NR7.out.2).keep b12); have C12 := Lib.hid ((C11.out.fr f2 Z11.out.1).keep b12); have D12 := Lib.hid k12; have O12 := Lib.hid (Lm.own_fr (F := fun _ => False) o2 (Fr.of_below b12) (fun k hk => hk.elim)); have O13 := Lib.hid (Lm.own_fr (F := fun _ => False) (Lm.own_fr O11.out f2 (fun k hk => Z11.out.2.1 k hk)) (Fr.of_below b12) (fun k hk => hk.elim)); clear o2 a2 f2 b12 k12))
      clear CC2 CC3 ex12 kr12 kw12 ey12
      obtain ⟨ad, had⟩ : ∃ z, z = z2.heap.size := ⟨_, rfl⟩
      rw [← had] at D12 ⊢
      clear had
      have CA := Lib.hid (lmalike_any t' ev HEL.out vv1 vv2 _ _ y12 O13.out O12.out)
      have heq : ∀ w, (Op.equalIn 10000 40 (.agg #[.int .i64 cv, .int .i64 cr, .int .i64 ct]) (.agg #[.int .i64 cv, .int .i64 cr, .int .i64 ct])).run Tryz.prog w = .ok true w := fun w => by rw [answer_equal]; simp
      have CP1 := Lib.hid (fun wx (hx : LmAt wx N1 s2) => show Calls Tryz.prog 22 #[.pointer (some ⟨N1.l, 0, none⟩), .int .i64 t', .int .i64 0, .string ⟨#[120]⟩, .int .i64 1] wx _ from lmpeekI (N := N1) (s := s2) t' 0 kX 1 (by show 1 ≤ maxLen; unfold maxLen; omega) (by unfold inR; omega) (by unfold inR; omega) wx hx G12.out.a.I)
      have CP2 := Lib.hid (fun wx (hx : LmAt wx N2 s2) => show Calls Tryz.prog 22 #[.pointer (some ⟨N2.l, 0, none⟩), .int .i64 t', .int .i64 0, .string ⟨#[120]⟩, .int .i64 1] wx _ from lmpeekI (N := N2) (s := s2) t' 0 kX 1 (by show 1 ≤ maxLen; unfold maxLen; omega) (by unfold inR; omega) (by unfold inR; omega) wx hx G12.out.b.I)
      have PI1 := Lib.hid (G12.out.a.I.peeked (N := N1) 0 1)
      have PI2 := Lib.hid (G12.out.b.I.peeked (N := N2) 0 1)
      rw [← peeked_F HF.out] at CP2 PI2
      have hap := HA2.out.peeked (N := N1) (now := t') (held := 0) (cost := 1)
      have hpe := fun hn => HA2.out.peek (now := t') (held := 0) (cost := 1) HF.out HQN.out.1 hn
      obtain ⟨s3, hs3⟩ : ∃ z, z = s2.peeked N1 t' 0 1 := ⟨_, rfl⟩
      rw [← hs3] at CP1 CP2 PI1 PI2 hap
      have HAP := Lib.hid hap
      obtain ⟨⟨v1, r1, g1⟩, hp1⟩ : ∃ z, z = s2.peek N1 t' 0 kX 1 := ⟨_, rfl⟩
      obtain ⟨⟨v2, r2, g2⟩, hp2⟩ : ∃ z, z = s2.peek N2 t' 0 kX 1 := ⟨_, rfl⟩
      rw [← hp1] at CP1 hpe
      rw [← hp2] at CP2 hpe
      clear hs3 hap hp1 hp2
      have kac := C12.out.rd
      have kad := D12.out.rd
      by_cases heqp : ((v1, r1, g1) : Int × Int × Int) = (v2, r2, g2)
      focus
        injection heqp with q1 q2
        injection q2 with q2 q3
        subst q1 q2 q3
        have heq2 : ∀ w, (Op.equalIn 10000 40 (.agg #[.int .i64 v1, .int .i64 r1, .int .i64 g1]) (.agg #[.int .i64 v1, .int .i64 r1, .int .i64 g1])).run Tryz.prog w = .ok true w := fun w => by rw [answer_equal]; simp
        clear hpe
      rotate_left
      focus
        have hc1 : Ce = 1 := by
          have h1 := HQN.out
          by_cases h2 : 2 ≤ lqC e
          · exact absurd (hpe h2) heqp
          · omega
        have heq2 : ∀ w, (Op.equalIn 10000 40 (.agg #[.int .i64 v1, .int .i64 r1, .int .i64 g1]) (.agg #[.int .i64 v2, .int .i64 r2, .int .i64 g2])).run Tryz.prog w = .ok false w := fun w => by
          rw [answer_equal, decide_eq_false (fun h => heqp (by rw [h.1, h.2.1, h.2.2]))]
        have u9 : decide (1 < Ce) = false := decide_eq_false (by omega)
        clear hpe heqp hc1
      rotate_left
      all_goals
        go_upto_region 19 with (first
          | (go_at_call 26; ((with_reducible refine CA.out.mono ?_); rintro e' z3 ⟨rfl, b3⟩; have G13 := Lib.hid (G12.out.keep b3); have R13 := Lib.hid (R12.out.keep b3); clear b3))
          | (go_at_call 22; first
            | ((with_reducible refine (CP1.out _ G13.out.a.at_).mono ?_); rintro e' z4 ⟨rfl, a4, f4⟩; have G14 := Lib.hid (G13.out.op1 a4 PI1.out (Int.le_refl _) f4 (fun b hb => Or.inl hb)); have R14 := Lib.hid (R13.out.fr f4 (fun hh => NR7.out.1 (Or.inl hh))); clear a4 f4)
            | ((with_reducible refine (CP2.out _ G14.out.b.at_).mono ?_); rintro e' z5 ⟨rfl, a5, f5⟩; have G15 := Lib.hid (G14.out.op2 a5 PI2.out (Int.le_refl _) f5 (fun b hb => Or.inl hb)); have R15 := Lib.hid (R14.out.fr f5 (fun hh => NR7.out.2 (Or.inl hh))); have kru := R15.out.rd; clear a5 f5)))
        go_wp2
        go_roundg (n2 - (i + 1))
        case measure => have := HKK.out; have := HIN.out; omega
        case rel => exact ⟨i + 1, t', s3, HIN.out, Lib.hid rfl, by go_num, rfl, Lib.hid (by have := HT'.out; omega), HAP, Lib.hid (G15.out.mono (by have := HT'.out; omega) (by have := HT'.out; omega) (by omega)), R15⟩
    · have hie : i = n2 := by omega
      subst hie
      have CT1 := lmtotals_any wr HG.out.a.at_
      have CT1 := Lib.hid (show Calls Tryz.prog 27 #[.pointer (some ⟨N1.l, 0, none⟩)] wr (fun e w' => e = .returned (totV s.al s.de s.ba (s.len N2) s.tot) ∧ Below wr.heap.size wr w') from by rw [← len_F HF.out]; exact CT1)
      have CT2 := Lib.hid (fun wx (hx : LmAt wx N2 s) => lmtotals_any wx hx)
      obtain ⟨q1, hq1⟩ : ∃ z, z = s.al := ⟨_, rfl⟩
      obtain ⟨q2, hq2⟩ : ∃ z, z = s.de := ⟨_, rfl⟩
      obtain ⟨q3, hq3⟩ : ∃ z, z = s.ba := ⟨_, rfl⟩
      obtain ⟨q4, hq4⟩ : ∃ z, z = s.len N2 := ⟨_, rfl⟩
      obtain ⟨q5, hq5⟩ : ∃ z, z = s.tot := ⟨_, rfl⟩
      rw [← hq1, ← hq2, ← hq3, ← hq4, ← hq5] at CT1 CT2
      clear hq1 hq2 hq3 hq4 hq5 hin
      have heq : ∀ w, (Op.equalIn 10000 47 (.agg #[.int .i64 q1, .int .i64 q2, .int .i64 q3, .int .i64 q4, .int .i64 q5]) (.agg #[.int .i64 q1, .int .i64 q2, .int .i64 q3, .int .i64 q4, .int .i64 q5])).run Tryz.prog w = .ok true w := fun w => by rw [totals_equal]; simp
      go_wp2_with (go_at_call 27; first
        | ((with_reducible refine CT1.out.mono ?_); rintro e' z4 ⟨rfl, b4⟩; have H4 := Lib.hid (HG.out.keep b4); have B4 := Lib.hid b4; clear b4)
        | ((with_reducible refine (CT2.out _ H4.out.b.at_).mono ?_); rintro e' z5 ⟨rfl, b5⟩; have H5 := Lib.hid (H4.out.keep b5); clear b5))
      go_ret
      exact ⟨rfl, H5.out.a.bl⟩
end Go.Proofs.YtbgcpljekcagiaaGreat
