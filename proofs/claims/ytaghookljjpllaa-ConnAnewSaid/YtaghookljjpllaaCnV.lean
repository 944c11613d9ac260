/- The law ConnAnew of layer 16, walked. -/
import Derived.Test.YtaghookljjpllaaCnE
import Derived.Test.YtaghookljjpllaaHw
namespace Go.Proofs.Ytaghookljjpllaa
set_option linter.unusedSimpArgs false
set_option linter.unusedVariables false
open Go.ChangeShapes Go.WideShapes Go.ChangeAt Go.RowKit
set_option maxRecDepth 100000 in
set_option maxHeartbeats 4000000 in
theorem cnanew_law (w : World) (A : Option Addr) (n c : Nat) (zs : List Int) (A2 : Option Addr) (n2 c2 : Nat) (zs2 : List Int) (hr : RdI w .u8 A n c zs) (hr2 : RdI w .u8 A2 n2 c2 zs2) :
    Calls Try.prog 6 #[.slice A n c, .slice A2 n2 c2] w fun e w' => e = .returned (.bool true) ∧ Below w.heap.size w w' := by
  have HR := Lib.hid hr
  have HR2 := Lib.hid hr2
  have hmx1 := hr.max
  have hcp1 := hr.cap
  have hmx2 := hr2.max
  have hcp2 := hr2.cap
  unfold maxLen at hmx1 hmx2
  have HL := Lib.hid hr.len
  have HL2 := Lib.hid hr2.len
  clear hr hr2
  go_enter Try.func6, Try.ntmps6
  go_upto_region 3 with (go_at_call 10; ((refine (cnfit_any _).mono ?_); rintro e w3 ⟨rfl, b3⟩; have B3 := Lib.hid b3; clear b3))
  by_cases hn : 300 < n
  · have t1 : decide ((300 : Int) < (n : Int)) = true := by rw [decide_eq_true_iff]; omega
    clear hn
    go_wp2
    go_ret
    exact ⟨rfl, B3.out⟩
  have t1 : decide ((300 : Int) < (n : Int)) = false := by rw [decide_eq_false_iff_not]; omega
  by_cases hn2 : 300 < n2
  · have t2 : decide ((300 : Int) < (n2 : Int)) = true := by rw [decide_eq_true_iff]; omega
    clear hn hn2
    go_wp2
    go_ret
    exact ⟨rfl, B3.out⟩
  have t2 : decide ((300 : Int) < (n2 : Int)) = false := by rw [decide_eq_false_iff_not]; omega
  have HN := Lib.hid (show n ≤ 300 ∧ n2 ≤ 300 by omega)
  clear hn hn2
  have CN1 := Lib.hid (cnew_z 4 200 200 rfl (by omega) (by omega) w3)
  go_upto_region 7 with (go_at_call 11; first
    | ((with_reducible refine CN2.out.mono ?_); rintro e w5 ⟨K2, rfl, hs, hru, h1, lo, b1⟩; have H5 := Lib.hid h1; have LO5 := Lib.hid lo; have B5 := Lib.hid b1; have HSZ2 := Lib.hid hs; have HRU2 := Lib.hid hru; clear h1 lo b1 hs hru)
    | ((with_reducible refine CN1.out.mono ?_); rintro e w4 ⟨K1, rfl, hs, hru, h1, lo, b1⟩; have H4 := Lib.hid h1; have LO4 := Lib.hid lo; have B4 := Lib.hid b1; have HSZ1 := Lib.hid hs; have HRU1 := Lib.hid hru; clear h1 lo b1 hs hru; have CN2 := Lib.hid (cnew_z 4 200 200 rfl (by omega) (by omega) w4)))
  have C7 := Lib.hid (c2_new H4.out LO4.out B4.out H5.out LO5.out B5.out B3.out)
  have sz6 : (w5.alloc (.cells #[.slice none 0 0] 33)).heap.size = w5.heap.size + 1 := by simp
  obtain ⟨hb, hhb⟩ : ∃ x, x = w5.heap.size := ⟨_, rfl⟩
  rw [← hhb] at C7 sz6 ⊢
  generalize w5.alloc (.cells #[.slice none 0 0] 33) = w6 at C7 sz6 ⊢
  rw [sz6] at C7
  obtain ⟨kb, hkb⟩ : ∃ x, x = hb + 1 := ⟨_, rfl⟩
  rw [← hkb] at C7 ⊢
  generalize w6.alloc (.cells #[.slice none 0 0] 33) = w7 at C7 ⊢
  clear hhb hkb sz6
  have CO := Lib.hid (copen_yes w7 C7.out.a.ch.c rfl)
  go_upto_region 8 with (go_at_call 15; ((with_reducible refine CO.out.mono ?_); rintro e w8 ⟨rfl, h8, f8⟩; have C8 := Lib.hid (C7.out.cnA h8 f8); clear h8 f8))
  clear CO
  have CA := Lib.hid (hoaccept_fr A n c zs 4 200 w8 C8.out.a HRU1.out HSZ1.out (by have := HN.out; show 0 + n ≤ 1000000; omega) rfl HR.out)
  have hsum := acc_sum (rules := 4) (size := 200) zs ⟨[], 0, [], true⟩ (st_new _ _ _) (rdI_byt HR.out) (Nat.zero_le _)
  obtain ⟨a, ha⟩ : ∃ a, a = accH 4 200 ⟨[], 0, [], true⟩ zs := ⟨_, rfl⟩
  rw [← ha] at CA hsum
  obtain ⟨N1, σ1, s1⟩ := a
  have HO1 := Lib.hid (show σ1.op = true ∧ s1.length ≤ 300 from ⟨hsum.2.1, by have h1 : s1.length ≤ N1 := hsum.2.2.2.2.1; have h2 : N1 ≤ zs.length := hsum.2.2.1; have := HL.out; have := HN.out; omega⟩)
  clear ha hsum
  go_upto_region 9 with (go_at_call 13; ((with_reducible refine CA.out.mono ?_); rintro e w9 ⟨rfl, v9, h9, f9, g9⟩; have C9 := Lib.hid (show C2 w w9 K1 hb kb σ1 s1 v9 K2 kb (kb + 1) ⟨[], 0, [], false⟩ [] (.slice none 0 0) from C8.out.onA h9 f9 g9); clear h9 f9 g9))
  clear CA
  have CS := Lib.hid (cshut_yes w9 C9.out.a.ch.c HO1.out.1)
  go_upto_region 11 with (first
    | (go_at_call 16; ((with_reducible refine CS.out.mono ?_); rintro e w10 ⟨rfl, h10, f10⟩; have C10 := Lib.hid (C9.out.cnA h10 f10); clear h10 f10; have CW := Lib.hid (show Calls Try.prog 18 #[.pointer (some ⟨K1.c, 0, none⟩)] w10 (fun e w' => e = .returned (.int .i64 0) ∧ w10 = w') from cwaits_any w10 C10.out.a.ch.c); have CA0 := Lib.hid (c1_no A2 n2 c2 (.iface 30 (.pointer (some ⟨hb, 0, none⟩))) w10 C10.out.a rfl); have CO := Lib.hid (copen_yes w10 C10.out.a.ch.c rfl)))
    | (go_at_call 18; ((with_reducible refine CW.out.mono ?_); rintro e wx ⟨rfl, rfl⟩))
    | (go_at_call 13; ((with_reducible refine CA0.out.mono ?_); rintro e wx ⟨rfl, rfl⟩))
    | (go_at_call 15; ((with_reducible refine CO.out.mono ?_); rintro e w11 ⟨rfl, h11, f11⟩; have C11 := Lib.hid (C10.out.cnA h11 f11); clear h11 f11)))
  clear CS CW CA0 CO
  have CO := Lib.hid (copen_yes w11 C11.out.b.ch.c rfl)
  go_upto_region 12 with (go_at_call 15; ((with_reducible refine CO.out.mono ?_); rintro e w12 ⟨rfl, h12, f12⟩; have C12 := Lib.hid (C11.out.cnB h12 f12); clear h12 f12))
  clear CO
  obtain ⟨k12, A12, d12, rfl, m12⟩ := c1_len C12.out.a
  go_upto_region 13 with (fail)
  clear k12
  have HL1 := HO1.out.2
  have hsum := acc_sum (rules := 4) (size := 200) zs2 ⟨[], 0, [], true⟩ (st_new _ _ _) (rdI_byt HR2.out) (Nat.zero_le _)
  have hob := acc_outb (rules := 4) (size := 200) zs2 ⟨[], 0, [], true⟩ (st_new _ _ _) (rdI_byt HR2.out) (fun z hz => by cases hz)
  have CA1 := Lib.hid (fun wx (h : C2 w wx K1 hb kb ⟨[], 0, [], true⟩ s1 (.slice A12 s1.length d12) K2 kb (kb + 1) ⟨[], 0, [], true⟩ [] (.slice none 0 0)) => hoaccept_fr A2 n2 c2 zs2 4 200 wx h.a HRU1.out HSZ1.out (by have := HN.out; have := HO1.out.2; omega) rfl HR2.out)
  have CA2 := Lib.hid (fun wx σ s v (h : C2 w wx K1 hb kb σ s v K2 kb (kb + 1) ⟨[], 0, [], true⟩ [] (.slice none 0 0)) => hoaccept_fr A2 n2 c2 zs2 4 200 wx h.b HRU2.out HSZ2.out (by have := HN.out; show 0 + n2 ≤ 1000000; omega) rfl HR2.out)
  obtain ⟨a, ha⟩ : ∃ a, a = accH 4 200 ⟨[], 0, [], true⟩ zs2 := ⟨_, rfl⟩
  rw [← ha] at CA1 CA2 hsum hob
  obtain ⟨N2, σ2, rq⟩ := a
  have hop : σ2.op = true := hsum.2.1
  have hle : σ2.out.length ≤ 200 := hsum.2.2.2.1
  have hrq : rq.length ≤ n2 := Nat.le_trans (show rq.length ≤ N2 from hsum.2.2.2.2.1) (by have h2 : N2 ≤ zs2.length := hsum.2.2.1; have := HL2.out; omega)
  change byt σ2.out at hob
  have HOP := Lib.hid hop
  have HOB := Lib.hid hob
  obtain ⟨L, hL⟩ : ∃ L, L = σ2.out.length := ⟨_, rfl⟩
  obtain ⟨M1, hM1⟩ : ∃ M, M = (s1 ++ rq).length := ⟨_, rfl⟩
  obtain ⟨M2, hM2⟩ : ∃ M, M = ([] ++ rq).length := ⟨_, rfl⟩
  have e1 : IntKind.i64.wrap ((M1 : Int) - (s1.length : Int)) = (M2 : Int) := by
    rw [hM1, hM2, List.nil_append, List.length_append, IntKind.wrap_i64]; have := HN.out; omega
  have HLE := Lib.hid (show L ≤ 200 ∧ σ2.out.length = L by omega)
  have HM1 := Lib.hid hM1
  have HM2 := Lib.hid hM2
  obtain ⟨X, hX⟩ : ∃ X, X = strOfNums σ2.out := ⟨_, rfl⟩
  have HX := Lib.hid hX
  have b1 : ((N2 : Int) == (N2 : Int)) = true := by simp
  have b2 : ((M2 : Int) == (M2 : Int)) = true := by simp
  have b3 : ((L : Int) == (L : Int)) = true := by simp
  have b4 : (σ2.err == σ2.err) = true := by simp
  have b5 : (X.toList == X.toList) = true := by simp
  have C13 := Lib.hid (C12.out.keep (show Below w12.heap.size w12 w12.drew from below_draws (Below.refl _ _) 1))
  clear ha hsum hob hop hle hrq hL hM1 hM2 hX HL1
  refine wp_region_held_drew (S := fun _ => True) (by kernel_rfl) trivial (fun hHeld => ?_)
  refine wpAnyH_take (i := 0) (oi := ?_) (v := ?_) ?_ ?_ ?_ ?_ ?_ ?_ ?_ ?_
  rotate_left 2
  · simp only [List.getElem?_toArray, List.getElem?_cons_succ, List.getElem?_cons_zero]; rfl
  · kernel_rfl
  · kernel_rfl
  · kernel_rfl
  · exact fun _ _ _ h => h
  · refine Or.inl ⟨by rfl, ?_⟩
    intro w' hSw
    (try dsimp only at hSw)
    go_simp
    all_goals (with_reducible rfl)
  · assumption
  try simp only [Act.put, List.setIfInBounds_toArray, List.set_cons_zero, List.set_cons_succ]
  refine wpAnyH_take (i := 1) (oi := ?_) (v := ?_) ?_ ?_ ?_ ?_ ?_ ?_ ?_ ?_
  rotate_left 2
  · simp only [List.getElem?_toArray, List.getElem?_cons_succ, List.getElem?_cons_zero]; rfl
  · kernel_rfl
  · kernel_rfl
  · kernel_rfl
  · exact fun _ _ _ h => h
  · refine Or.inl ⟨by rfl, ?_⟩
    intro w' hSw
    (try dsimp only at hSw)
    go_simp
    all_goals (with_reducible rfl)
  · assumption
  try simp only [Act.put, List.setIfInBounds_toArray, List.set_cons_zero, List.set_cons_succ]
  refine wpAnyH_take (i := 2) (oi := ?_) (v := ?_) ?_ ?_ ?_ ?_ ?_ ?_ ?_ ?_
  rotate_left 2
  · simp only [List.getElem?_toArray, List.getElem?_cons_succ, List.getElem?_cons_zero]; rfl
  · kernel_rfl
  · kernel_rfl
  · kernel_rfl
  · exact fun _ _ _ h => h
  · refine Or.inl ⟨by rfl, ?_⟩
    intro w' hSw
    (try dsimp only at hSw)
    go_simp
    all_goals (with_reducible rfl)
  · assumption
  try simp only [Act.put, List.setIfInBounds_toArray, List.set_cons_zero, List.set_cons_succ]
  refine wpAnyH_take (i := 3) (oi := ?_) (v := ?_) ?_ ?_ ?_ ?_ ?_ ?_ ?_ ?_
  rotate_left 2
  · simp only [List.getElem?_toArray, List.getElem?_cons_succ, List.getElem?_cons_zero]; rfl
  · kernel_rfl
  · kernel_rfl
  · kernel_rfl
  · exact fun _ _ _ h => h
  · refine Or.inl ⟨by rfl, ?_⟩
    intro w' hSw
    (try dsimp only at hSw)
    go_simp
    all_goals (with_reducible rfl)
  · assumption
  try simp only [Act.put, List.setIfInBounds_toArray, List.set_cons_zero, List.set_cons_succ]
  refine wpAnyH_take (i := 5) (oi := ?_) (v := ?_) ?_ ?_ ?_ ?_ ?_ ?_ ?_ ?_
  rotate_left 2
  · simp only [List.getElem?_toArray, List.getElem?_cons_succ, List.getElem?_cons_zero]; rfl
  · kernel_rfl
  · kernel_rfl
  · kernel_rfl
  · exact fun _ _ _ h => h
  · refine Or.inl ⟨by rfl, ?_⟩
    intro w' hSw
    (try dsimp only at hSw)
    go_simp
    all_goals (with_reducible rfl)
  · assumption
  try simp only [Act.put, List.setIfInBounds_toArray, List.set_cons_zero, List.set_cons_succ]
  refine wpAnyH_take (i := 6) (oi := ?_) (v := ?_) ?_ ?_ ?_ ?_ ?_ ?_ ?_ ?_
  rotate_left 2
  · simp only [List.getElem?_toArray, List.getElem?_cons_succ, List.getElem?_cons_zero]; rfl
  · kernel_rfl
  · kernel_rfl
  · kernel_rfl
  · exact fun _ _ _ h => h
  · refine Or.inl ⟨by rfl, ?_⟩
    intro w' hSw
    (try dsimp only at hSw)
    go_simp
    all_goals (with_reducible rfl)
  · assumption
  try simp only [Act.put, List.setIfInBounds_toArray, List.set_cons_zero, List.set_cons_succ]
  refine wpAnyH_take (i := 7) (oi := ?_) (v := ?_) ?_ ?_ ?_ ?_ ?_ ?_ ?_ ?_
  rotate_left 2
  · simp only [List.getElem?_toArray, List.getElem?_cons_succ, List.getElem?_cons_zero]; rfl
  · kernel_rfl
  · kernel_rfl
  · kernel_rfl
  · exact fun _ _ _ h => h
  · refine Or.inl ⟨by rfl, ?_⟩
    intro w' hSw
    (try dsimp only at hSw)
    go_simp
    all_goals (with_reducible rfl)
  · assumption
  try simp only [Act.put, List.setIfInBounds_toArray, List.set_cons_zero, List.set_cons_succ]
  refine wpAnyH_take (i := 8) (oi := ?_) (v := ?_) ?_ ?_ ?_ ?_ ?_ ?_ ?_ ?_
  rotate_left 2
  · simp only [List.getElem?_toArray, List.getElem?_cons_succ, List.getElem?_cons_zero]; rfl
  · kernel_rfl
  · kernel_rfl
  · kernel_rfl
  · exact fun _ _ _ h => h
  · refine Or.inl ⟨by rfl, ?_⟩
    intro w' hSw
    (try dsimp only at hSw)
    go_simp
    all_goals (with_reducible rfl)
  · assumption
  try simp only [Act.put, List.setIfInBounds_toArray, List.set_cons_zero, List.set_cons_succ]
  refine wpAnyH_ready (rs := [4]) (by kernel_rfl) (by simp) ?_
  refine AllReadyH.cons (o := ?_) ?_ ?_ ?_
  rotate_left 1
  · simp only [List.getElem?_toArray, List.getElem?_cons_succ, List.getElem?_cons_zero]; rfl
  rotate_left 1
  · exact AllReadyH.nil
  intro K hK
  go_simp
  ((with_reducible refine (CA1.out _ C13.out).mono ?_); rintro e w14 ⟨rfl, v14, h14, f14, g14⟩; have h14' := C13.out.onA h14 f14 g14; obtain ⟨k14, A14, d14, rfl, m14⟩ := c1_len h14'.a; have C14 := Lib.hid h14'; clear h14 h14' f14 g14 k14)
  refine hK.out _ _ trivial (fun hHeld => ?_)
  clear hK K
  try simp only [Act.put, List.setIfInBounds_toArray, List.set_cons_zero, List.set_cons_succ]
  refine wpAnyH_ready (rs := [9]) (by kernel_rfl) (by simp) ?_
  refine AllReadyH.cons (o := ?_) ?_ ?_ ?_
  rotate_left 1
  · simp only [List.getElem?_toArray, List.getElem?_cons_succ, List.getElem?_cons_zero]; rfl
  rotate_left 1
  · exact AllReadyH.nil
  intro K hK
  go_simp
  ((with_reducible refine (CA2.out _ _ _ _ C14.out).mono ?_); rintro e w15 ⟨rfl, v15, h15, f15, g15⟩; have h15' := C14.out.onB h15 f15 g15; obtain ⟨k15, A15, d15, rfl, m15⟩ := c1_len h15'.b; have C15 := Lib.hid h15'; clear h15 h15' f15 g15 k15)
  refine hK.out _ _ trivial (fun hHeld => ?_)
  clear hK K
  try simp only [Act.put, List.setIfInBounds_toArray, List.set_cons_zero, List.set_cons_succ]
  have K14 : w15.cell? ⟨hb, 0, none⟩ = some (.slice A14 (s1 ++ rq).length d14) := (c1_len C15.out.a).1
  have K15 : w15.cell? ⟨kb, 0, none⟩ = some (.slice A15 ([] ++ rq).length d15) := (c1_len C15.out.b).1
  rw [← HM1.out] at K14
  rw [← HM2.out] at K15
  refine held_more (fun w' : World => w'.cell? ⟨hb, 0, none⟩ = some (.slice A14 M1 d14) ∧ w'.cell? ⟨kb, 0, none⟩ = some (.slice A15 M2 d15)) (fun _ _ => trivial) _ _ _ _ ?_
  clear hHeld
  have hHeld : (fun w' : World => w'.cell? ⟨hb, 0, none⟩ = some (.slice A14 M1 d14) ∧ w'.cell? ⟨kb, 0, none⟩ = some (.slice A15 M2 d15)) w15 := ⟨K14, K15⟩
  clear K14 K15
  have CW1 := Lib.hid (cwaits_any w15 C15.out.a.ch.c)
  have CW2 := Lib.hid (cwaits_any w15 C15.out.b.ch.c)
  have CE1 := Lib.hid (errx _ _ K1.c σ2.z K1.rules σ2.err w15 C15.out.a.ch.c.d)
  have CE2 := Lib.hid (errx _ _ K2.c σ2.z K2.rules σ2.err w15 C15.out.b.ch.c.d)
  rw [show (⟨σ2.z, σ2.err, σ2.out, σ2.op⟩ : CnS).out.length = L from HLE.out.2] at CW1 CW2
  refine wpAnyH_take (i := 10) (oi := ?_) (v := ?_) ?_ ?_ ?_ ?_ ?_ ?_ ?_ ?_
  rotate_left 2
  · simp only [List.getElem?_toArray, List.getElem?_cons_succ, List.getElem?_cons_zero]; rfl
  · kernel_rfl
  · kernel_rfl
  · kernel_rfl
  · exact fun _ _ _ h => h
  · refine Or.inl ⟨by rfl, ?_⟩
    intro w' hSw
    (try dsimp only at hSw)
    go_simp
    all_goals (with_reducible rfl)
  · assumption
  try simp only [Act.put, List.setIfInBounds_toArray, List.set_cons_zero, List.set_cons_succ]
  refine wpAnyH_take (i := 11) (oi := ?_) (v := ?_) ?_ ?_ ?_ ?_ ?_ ?_ ?_ ?_
  rotate_left 2
  · simp only [List.getElem?_toArray, List.getElem?_cons_succ, List.getElem?_cons_zero]; rfl
  · kernel_rfl
  · kernel_rfl
  · kernel_rfl
  · exact fun _ _ _ h => h
  · refine Or.inl ⟨by rfl, ?_⟩
    intro w' hSw
    (try dsimp only at hSw)
    go_simp
    all_goals (with_reducible rfl)
  · assumption
  try simp only [Act.put, List.setIfInBounds_toArray, List.set_cons_zero, List.set_cons_succ]
  refine wpAnyH_take (i := 12) (oi := ?_) (v := ?_) ?_ ?_ ?_ ?_ ?_ ?_ ?_ ?_
  rotate_left 2
  · simp only [List.getElem?_toArray, List.getElem?_cons_succ, List.getElem?_cons_zero]; rfl
  · kernel_rfl
  · kernel_rfl
  · kernel_rfl
  · exact fun _ _ _ h => h
  · refine Or.inl ⟨by rfl, ?_⟩
    intro w' hSw
    (try dsimp only at hSw)
    go_simp
    all_goals (with_reducible rfl)
  · assumption
  try simp only [Act.put, List.setIfInBounds_toArray, List.set_cons_zero, List.set_cons_succ]
  refine wpAnyH_take (i := 13) (oi := ?_) (v := ?_) ?_ ?_ ?_ ?_ ?_ ?_ ?_ ?_
  rotate_left 2
  · simp only [List.getElem?_toArray, List.getElem?_cons_succ, List.getElem?_cons_zero]; rfl
  · kernel_rfl
  · kernel_rfl
  · kernel_rfl
  · exact fun _ _ _ h => h
  · refine Or.inl ⟨by rfl, ?_⟩
    intro w' hSw
    (try dsimp only at hSw)
    go_simp
    all_goals (with_reducible rfl)
  · assumption
  try simp only [Act.put, List.setIfInBounds_toArray, List.set_cons_zero, List.set_cons_succ]
  refine wpAnyH_take (i := 14) (oi := ?_) (v := ?_) ?_ ?_ ?_ ?_ ?_ ?_ ?_ ?_
  rotate_left 2
  · simp only [List.getElem?_toArray, List.getElem?_cons_succ, List.getElem?_cons_zero]; rfl
  · kernel_rfl
  · kernel_rfl
  · kernel_rfl
  · exact fun _ _ _ h => h
  · refine Or.inl ⟨by rfl, ?_⟩
    intro w' hSw
    (try dsimp only at hSw)
    go_simp
    all_goals (with_reducible rfl)
  · assumption
  try simp only [Act.put, List.setIfInBounds_toArray, List.set_cons_zero, List.set_cons_succ]
  refine wpAnyH_take (i := 15) (oi := ?_) (v := ?_) ?_ ?_ ?_ ?_ ?_ ?_ ?_ ?_
  rotate_left 2
  · simp only [List.getElem?_toArray, List.getElem?_cons_succ, List.getElem?_cons_zero]; rfl
  · kernel_rfl
  · kernel_rfl
  · kernel_rfl
  · exact fun _ _ _ h => h
  · refine Or.inl ⟨by rfl, ?_⟩
    intro w' hSw
    (try dsimp only at hSw)
    go_simp
    all_goals (with_reducible rfl)
  · assumption
  try simp only [Act.put, List.setIfInBounds_toArray, List.set_cons_zero, List.set_cons_succ]
  refine wpAnyH_take (i := 16) (oi := ?_) (v := ?_) ?_ ?_ ?_ ?_ ?_ ?_ ?_ ?_
  rotate_left 2
  · simp only [List.getElem?_toArray, List.getElem?_cons_succ, List.getElem?_cons_zero]; rfl
  · kernel_rfl
  · kernel_rfl
  · kernel_rfl
  · exact fun _ _ _ h => h
  · refine Or.inl ⟨by rfl, ?_⟩
    intro w' hSw
    (try dsimp only at hSw)
    go_simp
    all_goals (with_reducible rfl)
  · assumption
  try simp only [Act.put, List.setIfInBounds_toArray, List.set_cons_zero, List.set_cons_succ]
  refine wpAnyH_take (i := 17) (oi := ?_) (v := ?_) ?_ ?_ ?_ ?_ ?_ ?_ ?_ ?_
  rotate_left 2
  · simp only [List.getElem?_toArray, List.getElem?_cons_succ, List.getElem?_cons_zero]; rfl
  · kernel_rfl
  · kernel_rfl
  · kernel_rfl
  · exact fun _ _ _ h => h
  · refine Or.inl ⟨by rfl, ?_⟩
    intro w' hSw
    (try dsimp only at hSw)
    go_simp
    all_goals (with_reducible rfl)
  · assumption
  try simp only [Act.put, List.setIfInBounds_toArray, List.set_cons_zero, List.set_cons_succ]
  refine wpAnyH_take (i := 18) (oi := ?_) (v := ?_) ?_ ?_ ?_ ?_ ?_ ?_ ?_ ?_
  rotate_left 2
  · simp only [List.getElem?_toArray, List.getElem?_cons_succ, List.getElem?_cons_zero]; rfl
  · kernel_rfl
  · kernel_rfl
  · kernel_rfl
  · exact fun _ _ _ h => h
  · refine Or.inl ⟨by rfl, ?_⟩
    intro w' hSw
    (try dsimp only at hSw)
    go_simp
    all_goals (with_reducible rfl)
  · assumption
  try simp only [Act.put, List.setIfInBounds_toArray, List.set_cons_zero, List.set_cons_succ]
  refine wpAnyH_take (i := 19) (oi := ?_) (v := ?_) ?_ ?_ ?_ ?_ ?_ ?_ ?_ ?_
  rotate_left 2
  · simp only [List.getElem?_toArray, List.getElem?_cons_succ, List.getElem?_cons_zero]; rfl
  · kernel_rfl
  · kernel_rfl
  · kernel_rfl
  · exact fun _ _ _ h => h
  · refine Or.inl ⟨by rfl, ?_⟩
    intro w' hSw
    (try dsimp only at hSw)
    go_simp
    all_goals (with_reducible rfl)
  · assumption
  try simp only [Act.put, List.setIfInBounds_toArray, List.set_cons_zero, List.set_cons_succ]
  refine wpAnyH_take (i := 20) (oi := ?_) (v := ?_) ?_ ?_ ?_ ?_ ?_ ?_ ?_ ?_
  rotate_left 2
  · simp only [List.getElem?_toArray, List.getElem?_cons_succ, List.getElem?_cons_zero]; rfl
  · kernel_rfl
  · kernel_rfl
  · kernel_rfl
  · exact fun _ _ _ h => h
  · refine Or.inl ⟨by rfl, ?_⟩
    intro w' hSw
    (try dsimp only at hSw)
    go_simp
    all_goals (with_reducible rfl)
  · assumption
  try simp only [Act.put, List.setIfInBounds_toArray, List.set_cons_zero, List.set_cons_succ]
  refine wpAnyH_take (i := 21) (oi := ?_) (v := ?_) ?_ ?_ ?_ ?_ ?_ ?_ ?_ ?_
  rotate_left 2
  · simp only [List.getElem?_toArray, List.getElem?_cons_succ, List.getElem?_cons_zero]; rfl
  · kernel_rfl
  · kernel_rfl
  · kernel_rfl
  · exact fun _ _ _ h => h
  · refine Or.inl ⟨by rfl, ?_⟩
    intro w' hSw
    (try dsimp only at hSw)
    go_simp
    all_goals (with_reducible rfl)
  · assumption
  try simp only [Act.put, List.setIfInBounds_toArray, List.set_cons_zero, List.set_cons_succ]
  refine wpAnyH_take (i := 22) (oi := ?_) (v := ?_) ?_ ?_ ?_ ?_ ?_ ?_ ?_ ?_
  rotate_left 2
  · simp only [List.getElem?_toArray, List.getElem?_cons_succ, List.getElem?_cons_zero]; rfl
  · kernel_rfl
  · kernel_rfl
  · kernel_rfl
  · exact fun _ _ _ h => h
  · refine Or.inl ⟨by rfl, ?_⟩
    intro w' hSw
    (try dsimp only at hSw)
    go_simp
    all_goals (with_reducible rfl)
  · assumption
  try simp only [Act.put, List.setIfInBounds_toArray, List.set_cons_zero, List.set_cons_succ]
  refine wpAnyH_take (i := 23) (oi := ?_) (v := ?_) ?_ ?_ ?_ ?_ ?_ ?_ ?_ ?_
  rotate_left 2
  · simp only [List.getElem?_toArray, List.getElem?_cons_succ, List.getElem?_cons_zero]; rfl
  · kernel_rfl
  · kernel_rfl
  · kernel_rfl
  · exact fun _ _ _ h => h
  · refine Or.inl ⟨by rfl, ?_⟩
    intro w' hSw
    (try dsimp only at hSw)
    go_simp
    all_goals (with_reducible rfl)
  · assumption
  try simp only [Act.put, List.setIfInBounds_toArray, List.set_cons_zero, List.set_cons_succ]
  refine wpAnyH_take (i := 24) (oi := ?_) (v := ?_) ?_ ?_ ?_ ?_ ?_ ?_ ?_ ?_
  rotate_left 2
  · simp only [List.getElem?_toArray, List.getElem?_cons_succ, List.getElem?_cons_zero]; rfl
  · kernel_rfl
  · kernel_rfl
  · kernel_rfl
  · exact fun _ _ _ h => h
  · refine Or.inl ⟨by rfl, ?_⟩
    intro w' hSw
    (try dsimp only at hSw)
    go_simp
    all_goals (with_reducible rfl)
  · assumption
  try simp only [Act.put, List.setIfInBounds_toArray, List.set_cons_zero, List.set_cons_succ]
  refine wpAnyH_take (i := 25) (oi := ?_) (v := ?_) ?_ ?_ ?_ ?_ ?_ ?_ ?_ ?_
  rotate_left 2
  · simp only [List.getElem?_toArray, List.getElem?_cons_succ, List.getElem?_cons_zero]; rfl
  · kernel_rfl
  · kernel_rfl
  · kernel_rfl
  · exact fun _ _ _ h => h
  · refine Or.inl ⟨by rfl, ?_⟩
    intro w' hSw
    (try dsimp only at hSw)
    go_simp
    all_goals (with_reducible rfl)
  · assumption
  try simp only [Act.put, List.setIfInBounds_toArray, List.set_cons_zero, List.set_cons_succ]
  refine wpAnyH_take (i := 26) (oi := ?_) (v := ?_) ?_ ?_ ?_ ?_ ?_ ?_ ?_ ?_
  rotate_left 2
  · simp only [List.getElem?_toArray, List.getElem?_cons_succ, List.getElem?_cons_zero]; rfl
  · kernel_rfl
  · kernel_rfl
  · kernel_rfl
  · exact fun _ _ _ h => h
  · refine Or.inl ⟨by rfl, ?_⟩
    intro w' hSw
    (try dsimp only at hSw)
    go_simp
    all_goals (with_reducible rfl)
  · assumption
  try simp only [Act.put, List.setIfInBounds_toArray, List.set_cons_zero, List.set_cons_succ]
  refine wpAnyH_take (i := 27) (oi := ?_) (v := ?_) ?_ ?_ ?_ ?_ ?_ ?_ ?_ ?_
  rotate_left 2
  · simp only [List.getElem?_toArray, List.getElem?_cons_succ, List.getElem?_cons_zero]; rfl
  · kernel_rfl
  · kernel_rfl
  · kernel_rfl
  · exact fun _ _ _ h => h
  · refine Or.inl ⟨by rfl, ?_⟩
    intro w' hSw
    (try dsimp only at hSw)
    go_simp
    all_goals (with_reducible rfl)
  · assumption
  try simp only [Act.put, List.setIfInBounds_toArray, List.set_cons_zero, List.set_cons_succ]
  refine wpAnyH_take (i := 29) (oi := ?_) (v := ?_) ?_ ?_ ?_ ?_ ?_ ?_ ?_ ?_
  rotate_left 2
  · simp only [List.getElem?_toArray, List.getElem?_cons_succ, List.getElem?_cons_zero]; rfl
  · kernel_rfl
  · kernel_rfl
  · kernel_rfl
  · exact fun _ _ _ h => h
  · refine Or.inl ⟨by rfl, ?_⟩
    intro w' hSw
    (try dsimp only at hSw)
    go_simp
    all_goals (with_reducible rfl)
  · assumption
  try simp only [Act.put, List.setIfInBounds_toArray, List.set_cons_zero, List.set_cons_succ]
  refine wpAnyH_ready (rs := [28]) (by kernel_rfl) (by simp) ?_
  refine AllReadyH.cons (o := ?_) ?_ ?_ ?_
  rotate_left 1
  · simp only [List.getElem?_toArray, List.getElem?_cons_succ, List.getElem?_cons_zero]; rfl
  rotate_left 1
  · exact AllReadyH.nil
  intro K hK
  go_simp
  ((with_reducible refine CW1.out.mono ?_); rintro e wx ⟨rfl, rfl⟩)
  refine hK.out _ _ hHeld (fun hHeld => ?_)
  clear hK K
  try simp only [Act.put, List.setIfInBounds_toArray, List.set_cons_zero, List.set_cons_succ]
  refine wpAnyH_ready (rs := [30]) (by kernel_rfl) (by simp) ?_
  refine AllReadyH.cons (o := ?_) ?_ ?_ ?_
  rotate_left 1
  · simp only [List.getElem?_toArray, List.getElem?_cons_succ, List.getElem?_cons_zero]; rfl
  rotate_left 1
  · exact AllReadyH.nil
  intro K hK
  go_simp
  ((with_reducible refine CW2.out.mono ?_); rintro e wx ⟨rfl, rfl⟩)
  refine hK.out _ _ hHeld (fun hHeld => ?_)
  clear hK K
  try simp only [Act.put, List.setIfInBounds_toArray, List.set_cons_zero, List.set_cons_succ]
  refine wpAnyH_take (i := 31) (oi := ?_) (v := ?_) ?_ ?_ ?_ ?_ ?_ ?_ ?_ ?_
  rotate_left 2
  · simp only [List.getElem?_toArray, List.getElem?_cons_succ, List.getElem?_cons_zero]; rfl
  · kernel_rfl
  · kernel_rfl
  · kernel_rfl
  · exact fun _ _ _ h => h
  · refine Or.inl ⟨by rfl, ?_⟩
    intro w' hSw
    (try dsimp only at hSw)
    go_simp
    all_goals (with_reducible rfl)
  · assumption
  try simp only [Act.put, List.setIfInBounds_toArray, List.set_cons_zero, List.set_cons_succ]
  refine wpAnyH_take (i := 32) (oi := ?_) (v := ?_) ?_ ?_ ?_ ?_ ?_ ?_ ?_ ?_
  rotate_left 2
  · simp only [List.getElem?_toArray, List.getElem?_cons_succ, List.getElem?_cons_zero]; rfl
  · kernel_rfl
  · kernel_rfl
  · kernel_rfl
  · exact fun _ _ _ h => h
  · refine Or.inl ⟨by rfl, ?_⟩
    intro w' hSw
    (try dsimp only at hSw)
    go_simp
    all_goals (with_reducible rfl)
  · assumption
  try simp only [Act.put, List.setIfInBounds_toArray, List.set_cons_zero, List.set_cons_succ]
  refine wpAnyH_take (i := 33) (oi := ?_) (v := ?_) ?_ ?_ ?_ ?_ ?_ ?_ ?_ ?_
  rotate_left 2
  · simp only [List.getElem?_toArray, List.getElem?_cons_succ, List.getElem?_cons_zero]; rfl
  · kernel_rfl
  · kernel_rfl
  · kernel_rfl
  · exact fun _ _ _ h => h
  · refine Or.inl ⟨by rfl, ?_⟩
    intro w' hSw
    (try dsimp only at hSw)
    go_simp
    all_goals (with_reducible rfl)
  · assumption
  try simp only [Act.put, List.setIfInBounds_toArray, List.set_cons_zero, List.set_cons_succ]
  refine wpAnyH_take (i := 34) (oi := ?_) (v := ?_) ?_ ?_ ?_ ?_ ?_ ?_ ?_ ?_
  rotate_left 2
  · simp only [List.getElem?_toArray, List.getElem?_cons_succ, List.getElem?_cons_zero]; rfl
  · kernel_rfl
  · kernel_rfl
  · kernel_rfl
  · exact fun _ _ _ h => h
  · refine Or.inl ⟨by rfl, ?_⟩
    intro w' hSw
    (try dsimp only at hSw)
    go_simp
    all_goals (with_reducible rfl)
  · assumption
  try simp only [Act.put, List.setIfInBounds_toArray, List.set_cons_zero, List.set_cons_succ]
  refine wpAnyH_take (i := 35) (oi := ?_) (v := ?_) ?_ ?_ ?_ ?_ ?_ ?_ ?_ ?_
  rotate_left 2
  · simp only [List.getElem?_toArray, List.getElem?_cons_succ, List.getElem?_cons_zero]; rfl
  · kernel_rfl
  · kernel_rfl
  · kernel_rfl
  · exact fun _ _ _ h => h
  · refine Or.inl ⟨by rfl, ?_⟩
    intro w' hSw
    (try dsimp only at hSw)
    go_simp
    all_goals (with_reducible rfl)
  · assumption
  try simp only [Act.put, List.setIfInBounds_toArray, List.set_cons_zero, List.set_cons_succ]
  refine wpAnyH_take (i := 36) (oi := ?_) (v := ?_) ?_ ?_ ?_ ?_ ?_ ?_ ?_ ?_
  rotate_left 2
  · simp only [List.getElem?_toArray, List.getElem?_cons_succ, List.getElem?_cons_zero]; rfl
  · kernel_rfl
  · kernel_rfl
  · kernel_rfl
  · exact fun _ _ _ h => h
  · refine Or.inl ⟨by rfl, ?_⟩
    intro w' hSw
    (try dsimp only at hSw)
    go_simp
    all_goals (with_reducible rfl)
  · assumption
  try simp only [Act.put, List.setIfInBounds_toArray, List.set_cons_zero, List.set_cons_succ]
  refine wpAnyH_take (i := 38) (oi := ?_) (v := ?_) ?_ ?_ ?_ ?_ ?_ ?_ ?_ ?_
  rotate_left 2
  · simp only [List.getElem?_toArray, List.getElem?_cons_succ, List.getElem?_cons_zero]; rfl
  · kernel_rfl
  · kernel_rfl
  · kernel_rfl
  · exact fun _ _ _ h => h
  · refine Or.inl ⟨by rfl, ?_⟩
    intro w' hSw
    (try dsimp only at hSw)
    go_simp
    all_goals (with_reducible rfl)
  · assumption
  try simp only [Act.put, List.setIfInBounds_toArray, List.set_cons_zero, List.set_cons_succ]
  refine wpAnyH_take (i := 39) (oi := ?_) (v := ?_) ?_ ?_ ?_ ?_ ?_ ?_ ?_ ?_
  rotate_left 2
  · simp only [List.getElem?_toArray, List.getElem?_cons_succ, List.getElem?_cons_zero]; rfl
  · kernel_rfl
  · kernel_rfl
  · kernel_rfl
  · exact fun _ _ _ h => h
  · refine Or.inl ⟨by rfl, ?_⟩
    intro w' hSw
    (try dsimp only at hSw)
    go_simp
    all_goals (with_reducible rfl)
  · assumption
  try simp only [Act.put, List.setIfInBounds_toArray, List.set_cons_zero, List.set_cons_succ]
  refine wpAnyH_take (i := 40) (oi := ?_) (v := ?_) ?_ ?_ ?_ ?_ ?_ ?_ ?_ ?_
  rotate_left 2
  · simp only [List.getElem?_toArray, List.getElem?_cons_succ, List.getElem?_cons_zero]; rfl
  · kernel_rfl
  · kernel_rfl
  · kernel_rfl
  · exact fun _ _ _ h => h
  · refine Or.inl ⟨by rfl, ?_⟩
    intro w' hSw
    (try dsimp only at hSw)
    go_simp
    all_goals (with_reducible rfl)
  · assumption
  try simp only [Act.put, List.setIfInBounds_toArray, List.set_cons_zero, List.set_cons_succ]
  refine wpAnyH_ready (rs := [37]) (by kernel_rfl) (by simp) ?_
  refine AllReadyH.cons (o := ?_) ?_ ?_ ?_
  rotate_left 1
  · simp only [List.getElem?_toArray, List.getElem?_cons_succ, List.getElem?_cons_zero]; rfl
  rotate_left 1
  · exact AllReadyH.nil
  intro K hK
  go_simp
  ((with_reducible refine CE1.out.mono ?_); rintro e wx ⟨rfl, rfl⟩)
  refine hK.out _ _ hHeld (fun hHeld => ?_)
  clear hK K
  try simp only [Act.put, List.setIfInBounds_toArray, List.set_cons_zero, List.set_cons_succ]
  refine wpAnyH_ready (rs := [41]) (by kernel_rfl) (by simp) ?_
  refine AllReadyH.cons (o := ?_) ?_ ?_ ?_
  rotate_left 1
  · simp only [List.getElem?_toArray, List.getElem?_cons_succ, List.getElem?_cons_zero]; rfl
  rotate_left 1
  · exact AllReadyH.nil
  intro K hK
  go_simp
  ((with_reducible refine CE2.out.mono ?_); rintro e wx ⟨rfl, rfl⟩)
  refine hK.out _ _ hHeld (fun hHeld => ?_)
  clear hK K
  try simp only [Act.put, List.setIfInBounds_toArray, List.set_cons_zero, List.set_cons_succ]
  refine wpAnyH_take (i := 42) (oi := ?_) (v := ?_) ?_ ?_ ?_ ?_ ?_ ?_ ?_ ?_
  rotate_left 2
  · simp only [List.getElem?_toArray, List.getElem?_cons_succ, List.getElem?_cons_zero]; rfl
  · kernel_rfl
  · kernel_rfl
  · kernel_rfl
  · exact fun _ _ _ h => h
  · refine Or.inl ⟨by rfl, ?_⟩
    intro w' hSw
    (try dsimp only at hSw)
    go_simp
    all_goals (with_reducible rfl)
  · assumption
  try simp only [Act.put, List.setIfInBounds_toArray, List.set_cons_zero, List.set_cons_succ]
  refine wpAnyH_take (i := 43) (oi := ?_) (v := ?_) ?_ ?_ ?_ ?_ ?_ ?_ ?_ ?_
  rotate_left 2
  · simp only [List.getElem?_toArray, List.getElem?_cons_succ, List.getElem?_cons_zero]; rfl
  · kernel_rfl
  · kernel_rfl
  · kernel_rfl
  · exact fun _ _ _ h => h
  · refine Or.inl ⟨by rfl, ?_⟩
    intro w' hSw
    (try dsimp only at hSw)
    go_simp
    all_goals (with_reducible rfl)
  · assumption
  try simp only [Act.put, List.setIfInBounds_toArray, List.set_cons_zero, List.set_cons_succ]
  refine wpAnyH_take (i := 44) (oi := ?_) (v := ?_) ?_ ?_ ?_ ?_ ?_ ?_ ?_ ?_
  rotate_left 2
  · simp only [List.getElem?_toArray, List.getElem?_cons_succ, List.getElem?_cons_zero]; rfl
  · kernel_rfl
  · kernel_rfl
  · kernel_rfl
  · exact fun _ _ _ h => h
  · refine Or.inl ⟨by rfl, ?_⟩
    intro w' hSw
    (try dsimp only at hSw)
    go_simp
    all_goals (with_reducible rfl)
  · assumption
  try simp only [Act.put, List.setIfInBounds_toArray, List.set_cons_zero, List.set_cons_succ]
  refine wpAnyH_take (i := 45) (oi := ?_) (v := ?_) ?_ ?_ ?_ ?_ ?_ ?_ ?_ ?_
  rotate_left 2
  · simp only [List.getElem?_toArray, List.getElem?_cons_succ, List.getElem?_cons_zero]; rfl
  · kernel_rfl
  · kernel_rfl
  · kernel_rfl
  · exact fun _ _ _ h => h
  · refine Or.inl ⟨by rfl, ?_⟩
    intro w' hSw
    (try dsimp only at hSw)
    go_simp
    all_goals (with_reducible rfl)
  · assumption
  try simp only [Act.put, List.setIfInBounds_toArray, List.set_cons_zero, List.set_cons_succ]
  refine wpAnyH_take (i := 48) (oi := ?_) (v := ?_) ?_ ?_ ?_ ?_ ?_ ?_ ?_ ?_
  rotate_left 2
  · simp only [List.getElem?_toArray, List.getElem?_cons_succ, List.getElem?_cons_zero]; rfl
  · kernel_rfl
  · kernel_rfl
  · kernel_rfl
  · exact fun _ _ _ h => h
  · refine Or.inl ⟨by rfl, ?_⟩
    intro w' hSw
    (try dsimp only at hSw)
    go_simp
    all_goals (with_reducible rfl)
  · assumption
  try simp only [Act.put, List.setIfInBounds_toArray, List.set_cons_zero, List.set_cons_succ]
  have hSC := Lib.hid hHeld
  have CD1 := Lib.hid (cdrain_yes 200 L w15 C15.out.a.ch.c HOP.out (by rw [HLE.out.2]; have := HLE.out.1; omega))
  have KB15 := Lib.hid C15.out.b.lt
  refine wpAnyH_ready (rs := [46]) (by kernel_rfl) (by simp) ?_
  refine AllReadyH.cons (o := ?_) ?_ ?_ ?_
  rotate_left 1
  · simp only [List.getElem?_toArray, List.getElem?_cons_succ, List.getElem?_cons_zero]; rfl
  rotate_left 1
  · exact AllReadyH.nil
  intro K hK
  go_simp
  ((with_reducible refine CD1.out.mono ?_); rintro e w16 ⟨sc, rfl, k16, h16, f16, n16⟩; have C16 := Lib.hid (C15.out.cnA h16 f16); have KA : Hid (w16.cell? ⟨hb, 0, none⟩ = some (.slice A14 M1 d14)) := Lib.hid (by have := (c1_len C16.out.a).1; rw [← HM1.out] at this; exact this); have KB : Hid (w16.cell? ⟨kb, 0, none⟩ = some (.slice A15 M2 d15)) := Lib.hid (by have := (c1_len C16.out.b).1; rw [← HM2.out] at this; exact this); have RD := Lib.hid (rd_blk (n := L) k16 (by rw [List.length_take, HLE.out.2]; omega) (by have := HLE.out.1; unfold maxLen; omega) (fun z hz => u8_wf (HOB.out z (List.mem_of_mem_take hz)))); rw [List.take_of_length_le (by rw [HLE.out.2]; omega)] at RD; have SCN := Lib.hid n16; clear k16 h16 f16 n16)
  refine hK.out _ _ ⟨KA.out, KB.out⟩ (fun hHeld => ?_)
  clear hK K
  try simp only [Act.put, List.setIfInBounds_toArray, List.set_cons_zero, List.set_cons_succ]
  refine held_more (fun w' : World => (w'.cell? ⟨hb, 0, none⟩ = some (.slice A14 M1 d14) ∧ w'.cell? ⟨kb, 0, none⟩ = some (.slice A15 M2 d15)) ∧ RdI w' .u8 (some ⟨sc, 0, none⟩) L L σ2.out) (fun _ h => h.1) _ _ _ _ ?_
  clear hHeld
  have hHeld : (fun w' : World => (w'.cell? ⟨hb, 0, none⟩ = some (.slice A14 M1 d14) ∧ w'.cell? ⟨kb, 0, none⟩ = some (.slice A15 M2 d15)) ∧ RdI w' .u8 (some ⟨sc, 0, none⟩) L L σ2.out) w16 := ⟨⟨KA.out, KB.out⟩, RD.out⟩
  have HCV : ∀ w', RdI w' .u8 (some ⟨sc, 0, none⟩) L L σ2.out → (convert 27 9 (.slice (some ⟨sc, 0, none⟩) L L)).run Try.prog w' = .ok (.string X) w' := fun w' h => by rw [HX.out]; exact conv_str Try.underlying27 Try.underlying5 Try.underlying9 h
  refine wpAnyH_take (i := 47) (oi := ?_) (v := ?_) ?_ ?_ ?_ ?_ ?_ ?_ ?_ ?_
  rotate_left 2
  · simp only [List.getElem?_toArray, List.getElem?_cons_succ, List.getElem?_cons_zero]; rfl
  · kernel_rfl
  · kernel_rfl
  · kernel_rfl
  · exact fun _ _ _ h => h
  · refine Or.inl ⟨by rfl, ?_⟩
    intro w' hSw
    (try dsimp only at hSw)
    have cv := HCV w' hSw.2
    go_simp
    all_goals (with_reducible rfl)
  · assumption
  try simp only [Act.put, List.setIfInBounds_toArray, List.set_cons_zero, List.set_cons_succ]
  have CD2 := Lib.hid (cdrain_yes 200 L w16 C16.out.b.ch.c HOP.out (by rw [HLE.out.2]; have := HLE.out.1; omega))
  refine wpAnyH_ready (rs := [49]) (by kernel_rfl) (by simp) ?_
  refine AllReadyH.cons (o := ?_) ?_ ?_ ?_
  rotate_left 1
  · simp only [List.getElem?_toArray, List.getElem?_cons_succ, List.getElem?_cons_zero]; rfl
  rotate_left 1
  · exact AllReadyH.nil
  intro K hK
  go_simp
  ((with_reducible refine CD2.out.mono ?_); rintro e w17 ⟨sd, rfl, k17, h17, f17, n17⟩; have C17 := Lib.hid (C16.out.cnB h17 f17); have KA : Hid (w17.cell? ⟨hb, 0, none⟩ = some (.slice A14 M1 d14)) := Lib.hid (by have := (c1_len C17.out.a).1; rw [← HM1.out] at this; exact this); have KB : Hid (w17.cell? ⟨kb, 0, none⟩ = some (.slice A15 M2 d15)) := Lib.hid (by have := (c1_len C17.out.b).1; rw [← HM2.out] at this; exact this); have RD1 := Lib.hid (rdI_fr2 RD.out f17 (fun b off _ e hk => by injection e with e; injection e with e _; subst e; have := KB15.out _ (Or.inl hk); have := SCN.out; omega)); have cv := conv_str (P := Try.prog) (src := 27) (dst := 9) Try.underlying27 Try.underlying5 Try.underlying9 (rd_blk (n := L) k17 (by rw [List.length_take, HLE.out.2]; omega) (by have := HLE.out.1; unfold maxLen; omega) (fun z hz => u8_wf (HOB.out z (List.mem_of_mem_take hz)))); rw [List.take_of_length_le (by rw [HLE.out.2]; omega), ← HX.out] at cv; clear k17 h17 f17 n17)
  refine hK.out _ _ ⟨⟨KA.out, KB.out⟩, RD1.out⟩ (fun hHeld => ?_)
  clear hK K
  try simp only [Act.put, List.setIfInBounds_toArray, List.set_cons_zero, List.set_cons_succ]
  refine wpAnyH_ready (rs := [50]) (by kernel_rfl) (by simp) ?_
  refine AllReadyH.cons (o := ?_) ?_ ?_ ?_
  rotate_left 1
  · simp only [List.getElem?_toArray, List.getElem?_cons_succ, List.getElem?_cons_zero]; rfl
  rotate_left 1
  · exact AllReadyH.nil
  intro K hK
  go_simp
  skip
  refine hK.out _ _ hHeld (fun hHeld => ?_)
  clear hK K
  try simp only [Act.put, List.setIfInBounds_toArray, List.set_cons_zero, List.set_cons_succ]
  refine wpAnyH_take (i := 51) (oi := ?_) (v := ?_) ?_ ?_ ?_ ?_ ?_ ?_ ?_ ?_
  rotate_left 2
  · simp only [List.getElem?_toArray, List.getElem?_cons_succ, List.getElem?_cons_zero]; rfl
  · kernel_rfl
  · kernel_rfl
  · kernel_rfl
  · exact fun _ _ _ h => h
  · refine Or.inl ⟨by rfl, ?_⟩
    intro w' hSw
    (try dsimp only at hSw)
    go_simp
    all_goals (with_reducible rfl)
  · assumption
  try simp only [Act.put, List.setIfInBounds_toArray, List.set_cons_zero, List.set_cons_succ]
  refine wpAnyH_take (i := 52) (oi := ?_) (v := ?_) ?_ ?_ ?_ ?_ ?_ ?_ ?_ ?_
  rotate_left 2
  · simp only [List.getElem?_toArray, List.getElem?_cons_succ, List.getElem?_cons_zero]; rfl
  · kernel_rfl
  · kernel_rfl
  · kernel_rfl
  · exact fun _ _ _ h => h
  · refine Or.inl ⟨by rfl, ?_⟩
    intro w' hSw
    (try dsimp only at hSw)
    go_simp
    all_goals (with_reducible rfl)
  · assumption
  try simp only [Act.put, List.setIfInBounds_toArray, List.set_cons_zero, List.set_cons_succ]
  refine wpAnyH_take (i := 53) (oi := ?_) (v := ?_) ?_ ?_ ?_ ?_ ?_ ?_ ?_ ?_
  rotate_left 2
  · simp only [List.getElem?_toArray, List.getElem?_cons_succ, List.getElem?_cons_zero]; rfl
  · kernel_rfl
  · kernel_rfl
  · kernel_rfl
  · exact fun _ _ _ h => h
  · refine Or.inl ⟨by rfl, ?_⟩
    intro w' hSw
    (try dsimp only at hSw)
    go_simp
    all_goals (with_reducible rfl)
  · assumption
  try simp only [Act.put, List.setIfInBounds_toArray, List.set_cons_zero, List.set_cons_succ]
  refine wpAnyH_done (by kernel_rfl) ?_ _
  clear hHeld hSC cv HCV
  go_wp2
  go_ret
  exact ⟨rfl, C17.out.a.bl⟩
end Go.Proofs.Ytaghookljjpllaa
