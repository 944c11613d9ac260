/- The law ConnSeen of layer 16, walked. -/
import Derived.Test.YtaghookljjpllaaCnX
namespace Go.Proofs.Ytaghookljjpllaa
set_option linter.unusedSimpArgs false
set_option linter.unusedVariables false
open Go.ChangeShapes Go.WideShapes Go.ChangeAt Go.RowKit
set_option maxRecDepth 100000 in
set_option maxHeartbeats 4000000 in
theorem cnseen_law (w : World) (A : Option Addr) (n c : Nat) (zs : List Int) (hr : RdI w .u8 A n c zs) :
    Calls Try.prog 8 #[.slice A n c] w fun e w' => e = .returned (.bool true) ∧ Below w.heap.size w w' := by
  have HR := Lib.hid hr
  have hmx1 := hr.max
  have hcp1 := hr.cap
  unfold maxLen at hmx1
  have HL := Lib.hid hr.len
  clear hr
  go_enter Try.func8, Try.ntmps8
  go_upto_region 3 with (go_at_call 10; ((refine (cnfit_any _).mono ?_); rintro e w3 ⟨rfl, b3⟩; have B3 := Lib.hid b3; clear b3))
  by_cases hn : 500 < n
  · have t1 : decide ((500 : Int) < (n : Int)) = true := by rw [decide_eq_true_iff]; omega
    clear hn
    go_wp2
    go_ret
    exact ⟨rfl, B3.out⟩
  have t1 : decide ((500 : Int) < (n : Int)) = false := by rw [decide_eq_false_iff_not]; omega
  have HN := Lib.hid (show n ≤ 500 by omega)
  clear hn
  have CN1 := Lib.hid (cnew_z 4 300 300 rfl (by omega) (by omega) w3)
  go_upto_region 6 with (go_at_call 11; first
    | ((with_reducible refine CN2.out.mono ?_); rintro e w5 ⟨K2, rfl, hs, hru, h1, lo, b1⟩; have H5 := Lib.hid h1; have LO5 := Lib.hid lo; have B5 := Lib.hid b1; have HSZ2 := Lib.hid hs; have HRU2 := Lib.hid hru; clear h1 lo b1 hs hru)
    | ((with_reducible refine CN1.out.mono ?_); rintro e w4 ⟨K1, rfl, hs, hru, h1, lo, b1⟩; have H4 := Lib.hid h1; have LO4 := Lib.hid lo; have B4 := Lib.hid b1; have HSZ1 := Lib.hid hs; have HRU1 := Lib.hid hru; clear h1 lo b1 hs hru; have CN2 := Lib.hid (cnew_z 4 300 300 rfl (by omega) (by omega) w4)))
  have CO1 := Lib.hid (copen_yes w5 (H4.out.keep B5.out) rfl)
  go_upto_region 8 with (go_at_call 15; first
    | ((with_reducible refine CO2.out.mono ?_); rintro e w7 ⟨rfl, h7, f7⟩; have H7 := Lib.hid h7; have F7 := Lib.hid f7; clear h7 f7)
    | ((with_reducible refine CO1.out.mono ?_); rintro e w6 ⟨rfl, h6, f6⟩; have H6 := Lib.hid h6; have F6 := Lib.hid f6; have CO2 := Lib.hid (copen_yes w6 (H5.out.fr f6 (fun k hk hF => by have := LO5.out k hk; have := H4.out.lt k hF; omega)) rfl); clear h6 f6))
  have hap : ∀ k, K1.F k → ¬ K2.F k := fun k h1 h2 => by have := LO5.out k h2; have := H4.out.lt k h1; omega
  have l1 : ∀ k, K1.F k → w.heap.size ≤ k := fun k hk => Nat.le_trans B3.out.size (LO4.out k hk)
  have l2 : ∀ k, K2.F k → w.heap.size ≤ k := fun k hk => Nat.le_trans B3.out.size (Nat.le_trans B4.out.size (LO5.out k hk))
  have e5 := G.below_on (G.below_on B3.out B4.out) B5.out
  have e7 : Below w.heap.size w w7 := (e5.trans (F6.out.below e5.size l1)).trans (F7.out.below (Nat.le_trans e5.size F6.out.size) l2)
  obtain ⟨hb, hhb⟩ : ∃ x, x = w7.heap.size := ⟨_, rfl⟩
  have C9 := Lib.hid (ct_new (H6.out.fr F7.out hap) l1 H7.out l2 hap e7 hb hhb)
  clear hap l1 l2 e5 e7
  go_upto_region 9 with (fail)
  rw [← hhb]
  generalize (w7.alloc (.cells #[.slice none 0 0] 33)).alloc (.cells #[.slice none 0 0, .slice none 0 0] 61) = w9 at C9 ⊢
  obtain ⟨kb, hkb⟩ : ∃ x, x = hb + 1 := ⟨_, rfl⟩
  obtain ⟨kB, hkB⟩ : ∃ x, x = hb + 2 := ⟨_, rfl⟩
  obtain ⟨hB, hhB⟩ : ∃ x, x = hb + 1 := ⟨_, rfl⟩
  have C9 : Hid (CT (hostH hb hB K1.rules) (hostW kb kB K2.rules) w w9 K1 ⟨[], 0, [], true⟩ ([] : List Req) (.slice none 0 0 : Value) K2 ⟨[], 0, [], true⟩ (([], []) : List Req × List Req) ((.slice none 0 0, .slice none 0 0) : Value × Value)) := by rw [hhB, hkb, hkB]; exact C9
  try rw [← hkb]
  clear hhb hkb hkB hhB
  have hsum := acc_sum (rules := 4) (size := 300) zs ⟨[], 0, [], true⟩ (st_new _ _ _) (rdI_byt HR.out) (Nat.zero_le _)
  have hob := acc_outb (rules := 4) (size := 300) zs ⟨[], 0, [], true⟩ (st_new _ _ _) (rdI_byt HR.out) (fun z hz => by cases hz)
  have CA1 := Lib.hid (fun wx (h : CG (hostH hb hB K1.rules) w wx K1 ⟨[], 0, [], true⟩ ([] : List Req) (.slice none 0 0 : Value)) => gaccept_host A n c zs 4 300 wx h HRU1.out HSZ1.out (show 0 + n ≤ 1000000 by have := HN.out; omega) rfl HR.out)
  have CA2 := Lib.hid (fun wx (h : CG (hostW kb kB K2.rules) w wx K2 ⟨[], 0, [], true⟩ (([], []) : List Req × List Req) ((.slice none 0 0, .slice none 0 0) : Value × Value)) => gaccept_watch A n c zs 4 300 wx h HRU2.out HSZ2.out (show 0 + n ≤ 1000000 ∧ 0 + n ≤ 1000000 by have := HN.out; omega) rfl HR.out)
  obtain ⟨a, ha⟩ : ∃ a, a = accH 4 300 ⟨[], 0, [], true⟩ zs := ⟨_, rfl⟩
  rw [← ha] at CA1 CA2 hsum hob
  obtain ⟨N2, σ2, rq⟩ := a
  have hop : σ2.op = true := hsum.2.1
  have hle : σ2.out.length ≤ 300 := hsum.2.2.2.1
  have hrq : rq.length ≤ n := Nat.le_trans (show rq.length ≤ N2 from hsum.2.2.2.2.1) (by have h2 : N2 ≤ zs.length := hsum.2.2.1; have := HL.out; omega)
  change byt σ2.out at hob
  have HOP := Lib.hid hop
  have HOB := Lib.hid hob
  obtain ⟨L, hL⟩ : ∃ L, L = σ2.out.length := ⟨_, rfl⟩
  obtain ⟨M, hM⟩ : ∃ M, M = rq.length := ⟨_, rfl⟩
  have HLE := Lib.hid (show L ≤ 300 ∧ σ2.out.length = L by omega)
  have HM := Lib.hid (show rq.length = M ∧ M ≤ 500 by have := HN.out; omega)
  obtain ⟨X, hX⟩ : ∃ X, X = strOfNums σ2.out := ⟨_, rfl⟩
  have HX := Lib.hid hX
  have b1 : ((N2 : Int) != (N2 : Int)) = false := by simp
  have b2 : ((M : Int) != (M : Int)) = false := by simp
  have b5 : (X.toList == X.toList) = true := by simp
  have C10 := Lib.hid (C9.out.keep (show Below w9.heap.size w9 w9.drew from below_draws (Below.refl _ _) 1))
  clear ha hsum hob hop hle hrq hL hM hX
  refine wp_region_held_drew (S := fun _ => True) (by kernel_rfl) trivial (fun hHeld => ?_)
  refine wpAnyH_take (i := 0) (oi := ?_) (v := ?_) ?_ ?_ ?_ ?_ ?_ ?_ ?_ ?_
  rotate_left 2
  · simp only [List.getElem?_toArray, List.getElem?_cons_succ, List.getElem?_cons_zero]; rfl
  · kernel_rfl
  · kernel_rfl
  · kernel_rfl
  · exact fun _ _ _ h => h
  · refine Or.inl ⟨by rfl, ?_⟩
    intro w' hSw
    (try dsimp only at hSw)
    go_simp
    all_goals (with_reducible rfl)
  · assumption
  try simp only [Act.put, List.setIfInBounds_toArray, List.set_cons_zero, List.set_cons_succ]
  refine wpAnyH_take (i := 1) (oi := ?_) (v := ?_) ?_ ?_ ?_ ?_ ?_ ?_ ?_ ?_
  rotate_left 2
  · simp only [List.getElem?_toArray, List.getElem?_cons_succ, List.getElem?_cons_zero]; rfl
  · kernel_rfl
  · kernel_rfl
  · kernel_rfl
  · exact fun _ _ _ h => h
  · refine Or.inl ⟨by rfl, ?_⟩
    intro w' hSw
    (try dsimp only at hSw)
    go_simp
    all_goals (with_reducible rfl)
  · assumption
  try simp only [Act.put, List.setIfInBounds_toArray, List.set_cons_zero, List.set_cons_succ]
  refine wpAnyH_take (i := 2) (oi := ?_) (v := ?_) ?_ ?_ ?_ ?_ ?_ ?_ ?_ ?_
  rotate_left 2
  · simp only [List.getElem?_toArray, List.getElem?_cons_succ, List.getElem?_cons_zero]; rfl
  · kernel_rfl
  · kernel_rfl
  · kernel_rfl
  · exact fun _ _ _ h => h
  · refine Or.inl ⟨by rfl, ?_⟩
    intro w' hSw
    (try dsimp only at hSw)
    go_simp
    all_goals (with_reducible rfl)
  · assumption
  try simp only [Act.put, List.setIfInBounds_toArray, List.set_cons_zero, List.set_cons_succ]
  refine wpAnyH_take (i := 3) (oi := ?_) (v := ?_) ?_ ?_ ?_ ?_ ?_ ?_ ?_ ?_
  rotate_left 2
  · simp only [List.getElem?_toArray, List.getElem?_cons_succ, List.getElem?_cons_zero]; rfl
  · kernel_rfl
  · kernel_rfl
  · kernel_rfl
  · exact fun _ _ _ h => h
  · refine Or.inl ⟨by rfl, ?_⟩
    intro w' hSw
    (try dsimp only at hSw)
    go_simp
    all_goals (with_reducible rfl)
  · assumption
  try simp only [Act.put, List.setIfInBounds_toArray, List.set_cons_zero, List.set_cons_succ]
  refine wpAnyH_take (i := 5) (oi := ?_) (v := ?_) ?_ ?_ ?_ ?_ ?_ ?_ ?_ ?_
  rotate_left 2
  · simp only [List.getElem?_toArray, List.getElem?_cons_succ, List.getElem?_cons_zero]; rfl
  · kernel_rfl
  · kernel_rfl
  · kernel_rfl
  · exact fun _ _ _ h => h
  · refine Or.inl ⟨by rfl, ?_⟩
    intro w' hSw
    (try dsimp only at hSw)
    go_simp
    all_goals (with_reducible rfl)
  · assumption
  try simp only [Act.put, List.setIfInBounds_toArray, List.set_cons_zero, List.set_cons_succ]
  refine wpAnyH_take (i := 6) (oi := ?_) (v := ?_) ?_ ?_ ?_ ?_ ?_ ?_ ?_ ?_
  rotate_left 2
  · simp only [List.getElem?_toArray, List.getElem?_cons_succ, List.getElem?_cons_zero]; rfl
  · kernel_rfl
  · kernel_rfl
  · kernel_rfl
  · exact fun _ _ _ h => h
  · refine Or.inl ⟨by rfl, ?_⟩
    intro w' hSw
    (try dsimp only at hSw)
    go_simp
    all_goals (with_reducible rfl)
  · assumption
  try simp only [Act.put, List.setIfInBounds_toArray, List.set_cons_zero, List.set_cons_succ]
  refine wpAnyH_take (i := 7) (oi := ?_) (v := ?_) ?_ ?_ ?_ ?_ ?_ ?_ ?_ ?_
  rotate_left 2
  · simp only [List.getElem?_toArray, List.getElem?_cons_succ, List.getElem?_cons_zero]; rfl
  · kernel_rfl
  · kernel_rfl
  · kernel_rfl
  · exact fun _ _ _ h => h
  · refine Or.inl ⟨by rfl, ?_⟩
    intro w' hSw
    (try dsimp only at hSw)
    go_simp
    all_goals (with_reducible rfl)
  · assumption
  try simp only [Act.put, List.setIfInBounds_toArray, List.set_cons_zero, List.set_cons_succ]
  refine wpAnyH_take (i := 8) (oi := ?_) (v := ?_) ?_ ?_ ?_ ?_ ?_ ?_ ?_ ?_
  rotate_left 2
  · simp only [List.getElem?_toArray, List.getElem?_cons_succ, List.getElem?_cons_zero]; rfl
  · kernel_rfl
  · kernel_rfl
  · kernel_rfl
  · exact fun _ _ _ h => h
  · refine Or.inl ⟨by rfl, ?_⟩
    intro w' hSw
    (try dsimp only at hSw)
    go_simp
    all_goals (with_reducible rfl)
  · assumption
  try simp only [Act.put, List.setIfInBounds_toArray, List.set_cons_zero, List.set_cons_succ]
  refine wpAnyH_ready (rs := [4]) (by kernel_rfl) (by simp) ?_
  refine AllReadyH.cons (o := ?_) ?_ ?_ ?_
  rotate_left 1
  · simp only [List.getElem?_toArray, List.getElem?_cons_succ, List.getElem?_cons_zero]; rfl
  rotate_left 1
  · exact AllReadyH.nil
  intro K hK
  go_simp
  ((with_reducible refine (CA1.out _ C10.out.a).mono ?_); rintro e w14 ⟨rfl, v14, h14, f14, g14⟩; have C14 := Lib.hid (C10.out.onA h14 f14 g14); clear h14 f14 g14)
  refine hK.out _ _ trivial (fun hHeld => ?_)
  clear hK K
  try simp only [Act.put, List.setIfInBounds_toArray, List.set_cons_zero, List.set_cons_succ]
  refine wpAnyH_ready (rs := [9]) (by kernel_rfl) (by simp) ?_
  refine AllReadyH.cons (o := ?_) ?_ ?_ ?_
  rotate_left 1
  · simp only [List.getElem?_toArray, List.getElem?_cons_succ, List.getElem?_cons_zero]; rfl
  rotate_left 1
  · exact AllReadyH.nil
  intro K hK
  go_simp
  ((with_reducible refine (CA2.out _ C14.out.b).mono ?_); rintro e w15 ⟨rfl, v15, h15, f15, g15⟩; have C15 := Lib.hid (C14.out.onB h15 f15 g15); clear h15 f15 g15)
  refine hK.out _ _ trivial (fun hHeld => ?_)
  clear hK K
  try simp only [Act.put, List.setIfInBounds_toArray, List.set_cons_zero, List.set_cons_succ]
  obtain ⟨ka, oa, _⟩ := C15.out.a.ch.h
  have wb := C15.out.b.ch.h
  have kc := wb.bk
  have oc := wb.o1
  have od := wb.o2
  clear wb
  obtain ⟨v2, v3⟩ := v15
  change Blk w15 kb _ #[v2, v3] at kc
  change World.ownsRow _ _ _ _ v2 _ _ at oc
  change World.ownsRow _ _ _ _ v3 _ _ at od
  change World.ownsRow _ _ _ _ v14 _ _ at oa
  simp only [List.nil_append] at oa oc od
  rw [HM.out.1] at oa oc od
  obtain ⟨Aa, ca, rfl, qa⟩ := rdQ_own oa HM.out.1
  obtain ⟨Ac, cc, rfl, qc⟩ := rdQ_own oc HM.out.1
  obtain ⟨Ad, cd, rfl, qd⟩ := rdQ_own od HM.out.1
  have QA := Lib.hid qa
  have QC := Lib.hid qc
  have QD := Lib.hid qd
  have KA := Lib.hid ka
  have KC := Lib.hid kc
  clear oa oc od qa qc qd ka kc
  refine held_more (fun w' : World => w'.cell? ⟨hb, 0, none⟩ = some (.slice Aa M ca) ∧ ∀ i, w'.cell? ⟨kb, i, none⟩ = (#[.slice Ac M cc, .slice Ad M cd] : Array Value)[i]?) (fun _ _ => trivial) _ _ _ _ ?_
  clear hHeld
  have hHeld : (fun w' : World => w'.cell? ⟨hb, 0, none⟩ = some (.slice Aa M ca) ∧ ∀ i, w'.cell? ⟨kb, i, none⟩ = (#[.slice Ac M cc, .slice Ad M cd] : Array Value)[i]?) w15 := ⟨by rw [blk_cell KA.out]; rfl, KC.out.rd⟩
  refine wpAnyH_take (i := 10) (oi := ?_) (v := ?_) ?_ ?_ ?_ ?_ ?_ ?_ ?_ ?_
  rotate_left 2
  · simp only [List.getElem?_toArray, List.getElem?_cons_succ, List.getElem?_cons_zero]; rfl
  · kernel_rfl
  · kernel_rfl
  · kernel_rfl
  · exact fun _ _ _ h => h
  · refine Or.inl ⟨by rfl, ?_⟩
    intro w' hSw
    (try dsimp only at hSw)
    go_simp
    all_goals (with_reducible rfl)
  · assumption
  try simp only [Act.put, List.setIfInBounds_toArray, List.set_cons_zero, List.set_cons_succ]
  refine wpAnyH_take (i := 11) (oi := ?_) (v := ?_) ?_ ?_ ?_ ?_ ?_ ?_ ?_ ?_
  rotate_left 2
  · simp only [List.getElem?_toArray, List.getElem?_cons_succ, List.getElem?_cons_zero]; rfl
  · kernel_rfl
  · kernel_rfl
  · kernel_rfl
  · exact fun _ _ _ h => h
  · refine Or.inl ⟨by rfl, ?_⟩
    intro w' hSw
    (try dsimp only at hSw)
    go_simp
    all_goals (with_reducible rfl)
  · assumption
  try simp only [Act.put, List.setIfInBounds_toArray, List.set_cons_zero, List.set_cons_succ]
  refine wpAnyH_take (i := 12) (oi := ?_) (v := ?_) ?_ ?_ ?_ ?_ ?_ ?_ ?_ ?_
  rotate_left 2
  · simp only [List.getElem?_toArray, List.getElem?_cons_succ, List.getElem?_cons_zero]; rfl
  · kernel_rfl
  · kernel_rfl
  · kernel_rfl
  · exact fun _ _ _ h => h
  · refine Or.inl ⟨by rfl, ?_⟩
    intro w' hSw
    (try dsimp only at hSw)
    go_simp
    all_goals (with_reducible rfl)
  · assumption
  try simp only [Act.put, List.setIfInBounds_toArray, List.set_cons_zero, List.set_cons_succ]
  refine wpAnyH_take (i := 13) (oi := ?_) (v := ?_) ?_ ?_ ?_ ?_ ?_ ?_ ?_ ?_
  rotate_left 2
  · simp only [List.getElem?_toArray, List.getElem?_cons_succ, List.getElem?_cons_zero]; rfl
  · kernel_rfl
  · kernel_rfl
  · kernel_rfl
  · exact fun _ _ _ h => h
  · refine Or.inl ⟨by rfl, ?_⟩
    intro w' hSw
    (try dsimp only at hSw)
    go_simp
    all_goals (with_reducible rfl)
  · assumption
  try simp only [Act.put, List.setIfInBounds_toArray, List.set_cons_zero, List.set_cons_succ]
  refine wpAnyH_take (i := 14) (oi := ?_) (v := ?_) ?_ ?_ ?_ ?_ ?_ ?_ ?_ ?_
  rotate_left 2
  · simp only [List.getElem?_toArray, List.getElem?_cons_succ, List.getElem?_cons_zero]; rfl
  · kernel_rfl
  · kernel_rfl
  · kernel_rfl
  · exact fun _ _ _ h => h
  · refine Or.inl ⟨by rfl, ?_⟩
    intro w' hSw
    (try dsimp only at hSw)
    go_simp
    all_goals (with_reducible rfl)
  · assumption
  try simp only [Act.put, List.setIfInBounds_toArray, List.set_cons_zero, List.set_cons_succ]
  refine wpAnyH_take (i := 15) (oi := ?_) (v := ?_) ?_ ?_ ?_ ?_ ?_ ?_ ?_ ?_
  rotate_left 2
  · simp only [List.getElem?_toArray, List.getElem?_cons_succ, List.getElem?_cons_zero]; rfl
  · kernel_rfl
  · kernel_rfl
  · kernel_rfl
  · exact fun _ _ _ h => h
  · refine Or.inl ⟨by rfl, ?_⟩
    intro w' hSw
    (try dsimp only at hSw)
    go_simp
    all_goals (with_reducible rfl)
  · assumption
  try simp only [Act.put, List.setIfInBounds_toArray, List.set_cons_zero, List.set_cons_succ]
  refine wpAnyH_take (i := 16) (oi := ?_) (v := ?_) ?_ ?_ ?_ ?_ ?_ ?_ ?_ ?_
  rotate_left 2
  · simp only [List.getElem?_toArray, List.getElem?_cons_succ, List.getElem?_cons_zero]; rfl
  · kernel_rfl
  · kernel_rfl
  · kernel_rfl
  · exact fun _ _ _ h => h
  · refine Or.inl ⟨by rfl, ?_⟩
    intro w' hSw
    (try dsimp only at hSw)
    go_simp
    all_goals (with_reducible rfl)
  · assumption
  try simp only [Act.put, List.setIfInBounds_toArray, List.set_cons_zero, List.set_cons_succ]
  refine wpAnyH_take (i := 17) (oi := ?_) (v := ?_) ?_ ?_ ?_ ?_ ?_ ?_ ?_ ?_
  rotate_left 2
  · simp only [List.getElem?_toArray, List.getElem?_cons_succ, List.getElem?_cons_zero]; rfl
  · kernel_rfl
  · kernel_rfl
  · kernel_rfl
  · exact fun _ _ _ h => h
  · refine Or.inl ⟨by rfl, ?_⟩
    intro w' hSw
    (try dsimp only at hSw)
    go_simp
    all_goals (with_reducible rfl)
  · assumption
  try simp only [Act.put, List.setIfInBounds_toArray, List.set_cons_zero, List.set_cons_succ]
  refine wpAnyH_take (i := 18) (oi := ?_) (v := ?_) ?_ ?_ ?_ ?_ ?_ ?_ ?_ ?_
  rotate_left 2
  · simp only [List.getElem?_toArray, List.getElem?_cons_succ, List.getElem?_cons_zero]; rfl
  · kernel_rfl
  · kernel_rfl
  · kernel_rfl
  · exact fun _ _ _ h => h
  · refine Or.inl ⟨by rfl, ?_⟩
    intro w' hSw
    (try dsimp only at hSw)
    go_simp
    all_goals (with_reducible rfl)
  · assumption
  try simp only [Act.put, List.setIfInBounds_toArray, List.set_cons_zero, List.set_cons_succ]
  refine wpAnyH_take (i := 19) (oi := ?_) (v := ?_) ?_ ?_ ?_ ?_ ?_ ?_ ?_ ?_
  rotate_left 2
  · simp only [List.getElem?_toArray, List.getElem?_cons_succ, List.getElem?_cons_zero]; rfl
  · kernel_rfl
  · kernel_rfl
  · kernel_rfl
  · exact fun _ _ _ h => h
  · refine Or.inl ⟨by rfl, ?_⟩
    intro w' hSw
    (try dsimp only at hSw)
    go_simp
    all_goals (with_reducible rfl)
  · assumption
  try simp only [Act.put, List.setIfInBounds_toArray, List.set_cons_zero, List.set_cons_succ]
  refine wpAnyH_take (i := 20) (oi := ?_) (v := ?_) ?_ ?_ ?_ ?_ ?_ ?_ ?_ ?_
  rotate_left 2
  · simp only [List.getElem?_toArray, List.getElem?_cons_succ, List.getElem?_cons_zero]; rfl
  · kernel_rfl
  · kernel_rfl
  · kernel_rfl
  · exact fun _ _ _ h => h
  · refine Or.inl ⟨by rfl, ?_⟩
    intro w' hSw
    (try dsimp only at hSw)
    go_simp
    all_goals (with_reducible rfl)
  · assumption
  try simp only [Act.put, List.setIfInBounds_toArray, List.set_cons_zero, List.set_cons_succ]
  refine wpAnyH_take (i := 21) (oi := ?_) (v := ?_) ?_ ?_ ?_ ?_ ?_ ?_ ?_ ?_
  rotate_left 2
  · simp only [List.getElem?_toArray, List.getElem?_cons_succ, List.getElem?_cons_zero]; rfl
  · kernel_rfl
  · kernel_rfl
  · kernel_rfl
  · exact fun _ _ _ h => h
  · refine Or.inl ⟨by rfl, ?_⟩
    intro w' hSw
    (try dsimp only at hSw)
    go_simp
    all_goals (with_reducible rfl)
  · assumption
  try simp only [Act.put, List.setIfInBounds_toArray, List.set_cons_zero, List.set_cons_succ]
  refine wpAnyH_take (i := 22) (oi := ?_) (v := ?_) ?_ ?_ ?_ ?_ ?_ ?_ ?_ ?_
  rotate_left 2
  · simp only [List.getElem?_toArray, List.getElem?_cons_succ, List.getElem?_cons_zero]; rfl
  · kernel_rfl
  · kernel_rfl
  · kernel_rfl
  · exact fun _ _ _ h => h
  · refine Or.inl ⟨by rfl, ?_⟩
    intro w' hSw
    (try dsimp only at hSw)
    go_simp
    all_goals (with_reducible rfl)
  · assumption
  try simp only [Act.put, List.setIfInBounds_toArray, List.set_cons_zero, List.set_cons_succ]
  refine wpAnyH_take (i := 23) (oi := ?_) (v := ?_) ?_ ?_ ?_ ?_ ?_ ?_ ?_ ?_
  rotate_left 2
  · simp only [List.getElem?_toArray, List.getElem?_cons_succ, List.getElem?_cons_zero]; rfl
  · kernel_rfl
  · kernel_rfl
  · kernel_rfl
  · exact fun _ _ _ h => h
  · refine Or.inl ⟨by rfl, ?_⟩
    intro w' hSw
    (try dsimp only at hSw)
    go_simp
    all_goals (with_reducible rfl)
  · assumption
  try simp only [Act.put, List.setIfInBounds_toArray, List.set_cons_zero, List.set_cons_succ]
  refine wpAnyH_take (i := 24) (oi := ?_) (v := ?_) ?_ ?_ ?_ ?_ ?_ ?_ ?_ ?_
  rotate_left 2
  · simp only [List.getElem?_toArray, List.getElem?_cons_succ, List.getElem?_cons_zero]; rfl
  · kernel_rfl
  · kernel_rfl
  · kernel_rfl
  · exact fun _ _ _ h => h
  · refine Or.inl ⟨by rfl, ?_⟩
    intro w' hSw
    (try dsimp only at hSw)
    go_simp
    all_goals (with_reducible rfl)
  · assumption
  try simp only [Act.put, List.setIfInBounds_toArray, List.set_cons_zero, List.set_cons_succ]
  refine wpAnyH_take (i := 25) (oi := ?_) (v := ?_) ?_ ?_ ?_ ?_ ?_ ?_ ?_ ?_
  rotate_left 2
  · simp only [List.getElem?_toArray, List.getElem?_cons_succ, List.getElem?_cons_zero]; rfl
  · kernel_rfl
  · kernel_rfl
  · kernel_rfl
  · exact fun _ _ _ h => h
  · refine Or.inl ⟨by rfl, ?_⟩
    intro w' hSw
    (try dsimp only at hSw)
    go_simp
    all_goals (with_reducible rfl)
  · assumption
  try simp only [Act.put, List.setIfInBounds_toArray, List.set_cons_zero, List.set_cons_succ]
  refine wpAnyH_take (i := 26) (oi := ?_) (v := ?_) ?_ ?_ ?_ ?_ ?_ ?_ ?_ ?_
  rotate_left 2
  · simp only [List.getElem?_toArray, List.getElem?_cons_succ, List.getElem?_cons_zero]; rfl
  · kernel_rfl
  · kernel_rfl
  · kernel_rfl
  · exact fun _ _ _ h => h
  · refine Or.inl ⟨by rfl, ?_⟩
    intro w' hSw
    (try dsimp only at hSw)
    go_simp
    all_goals (with_reducible rfl)
  · assumption
  try simp only [Act.put, List.setIfInBounds_toArray, List.set_cons_zero, List.set_cons_succ]
  refine wpAnyH_take (i := 27) (oi := ?_) (v := ?_) ?_ ?_ ?_ ?_ ?_ ?_ ?_ ?_
  rotate_left 2
  · simp only [List.getElem?_toArray, List.getElem?_cons_succ, List.getElem?_cons_zero]; rfl
  · kernel_rfl
  · kernel_rfl
  · kernel_rfl
  · exact fun _ _ _ h => h
  · refine Or.inl ⟨by rfl, ?_⟩
    intro w' hSw
    (try dsimp only at hSw)
    go_simp
    all_goals (with_reducible rfl)
  · assumption
  try simp only [Act.put, List.setIfInBounds_toArray, List.set_cons_zero, List.set_cons_succ]
  refine wpAnyH_take (i := 28) (oi := ?_) (v := ?_) ?_ ?_ ?_ ?_ ?_ ?_ ?_ ?_
  rotate_left 2
  · simp only [List.getElem?_toArray, List.getElem?_cons_succ, List.getElem?_cons_zero]; rfl
  · kernel_rfl
  · kernel_rfl
  · kernel_rfl
  · exact fun _ _ _ h => h
  · refine Or.inl ⟨by rfl, ?_⟩
    intro w' hSw
    (try dsimp only at hSw)
    go_simp
    all_goals (with_reducible rfl)
  · assumption
  try simp only [Act.put, List.setIfInBounds_toArray, List.set_cons_zero, List.set_cons_succ]
  refine wpAnyH_take (i := 29) (oi := ?_) (v := ?_) ?_ ?_ ?_ ?_ ?_ ?_ ?_ ?_
  rotate_left 2
  · simp only [List.getElem?_toArray, List.getElem?_cons_succ, List.getElem?_cons_zero]; rfl
  · kernel_rfl
  · kernel_rfl
  · kernel_rfl
  · exact fun _ _ _ h => h
  · refine Or.inl ⟨by rfl, ?_⟩
    intro w' hSw
    (try dsimp only at hSw)
    go_simp
    all_goals (with_reducible rfl)
  · assumption
  try simp only [Act.put, List.setIfInBounds_toArray, List.set_cons_zero, List.set_cons_succ]
  refine wpAnyH_take (i := 30) (oi := ?_) (v := ?_) ?_ ?_ ?_ ?_ ?_ ?_ ?_ ?_
  rotate_left 2
  · simp only [List.getElem?_toArray, List.getElem?_cons_succ, List.getElem?_cons_zero]; rfl
  · kernel_rfl
  · kernel_rfl
  · kernel_rfl
  · exact fun _ _ _ h => h
  · refine Or.inl ⟨by rfl, ?_⟩
    intro w' hSw
    (try dsimp only at hSw)
    go_simp
    all_goals (with_reducible rfl)
  · assumption
  try simp only [Act.put, List.setIfInBounds_toArray, List.set_cons_zero, List.set_cons_succ]
  refine wpAnyH_take (i := 31) (oi := ?_) (v := ?_) ?_ ?_ ?_ ?_ ?_ ?_ ?_ ?_
  rotate_left 2
  · simp only [List.getElem?_toArray, List.getElem?_cons_succ, List.getElem?_cons_zero]; rfl
  · kernel_rfl
  · kernel_rfl
  · kernel_rfl
  · exact fun _ _ _ h => h
  · refine Or.inl ⟨by rfl, ?_⟩
    intro w' hSw
    (try dsimp only at hSw)
    go_simp
    all_goals (with_reducible rfl)
  · assumption
  try simp only [Act.put, List.setIfInBounds_toArray, List.set_cons_zero, List.set_cons_succ]
  refine wpAnyH_take (i := 32) (oi := ?_) (v := ?_) ?_ ?_ ?_ ?_ ?_ ?_ ?_ ?_
  rotate_left 2
  · simp only [List.getElem?_toArray, List.getElem?_cons_succ, List.getElem?_cons_zero]; rfl
  · kernel_rfl
  · kernel_rfl
  · kernel_rfl
  · exact fun _ _ _ h => h
  · refine Or.inl ⟨by rfl, ?_⟩
    intro w' hSw
    (try dsimp only at hSw)
    go_simp
    all_goals (with_reducible rfl)
  · assumption
  try simp only [Act.put, List.setIfInBounds_toArray, List.set_cons_zero, List.set_cons_succ]
  refine wpAnyH_take (i := 33) (oi := ?_) (v := ?_) ?_ ?_ ?_ ?_ ?_ ?_ ?_ ?_
  rotate_left 2
  · simp only [List.getElem?_toArray, List.getElem?_cons_succ, List.getElem?_cons_zero]; rfl
  · kernel_rfl
  · kernel_rfl
  · kernel_rfl
  · exact fun _ _ _ h => h
  · refine Or.inl ⟨by rfl, ?_⟩
    intro w' hSw
    (try dsimp only at hSw)
    go_simp
    all_goals (with_reducible rfl)
  · assumption
  try simp only [Act.put, List.setIfInBounds_toArray, List.set_cons_zero, List.set_cons_succ]
  refine wpAnyH_take (i := 34) (oi := ?_) (v := ?_) ?_ ?_ ?_ ?_ ?_ ?_ ?_ ?_
  rotate_left 2
  · simp only [List.getElem?_toArray, List.getElem?_cons_succ, List.getElem?_cons_zero]; rfl
  · kernel_rfl
  · kernel_rfl
  · kernel_rfl
  · exact fun _ _ _ h => h
  · refine Or.inl ⟨by rfl, ?_⟩
    intro w' hSw
    (try dsimp only at hSw)
    go_simp
    all_goals (with_reducible rfl)
  · assumption
  try simp only [Act.put, List.setIfInBounds_toArray, List.set_cons_zero, List.set_cons_succ]
  refine wpAnyH_take (i := 35) (oi := ?_) (v := ?_) ?_ ?_ ?_ ?_ ?_ ?_ ?_ ?_
  rotate_left 2
  · simp only [List.getElem?_toArray, List.getElem?_cons_succ, List.getElem?_cons_zero]; rfl
  · kernel_rfl
  · kernel_rfl
  · kernel_rfl
  · exact fun _ _ _ h => h
  · refine Or.inl ⟨by rfl, ?_⟩
    intro w' hSw
    (try dsimp only at hSw)
    go_simp
    all_goals (with_reducible rfl)
  · assumption
  try simp only [Act.put, List.setIfInBounds_toArray, List.set_cons_zero, List.set_cons_succ]
  refine wpAnyH_take (i := 36) (oi := ?_) (v := ?_) ?_ ?_ ?_ ?_ ?_ ?_ ?_ ?_
  rotate_left 2
  · simp only [List.getElem?_toArray, List.getElem?_cons_succ, List.getElem?_cons_zero]; rfl
  · kernel_rfl
  · kernel_rfl
  · kernel_rfl
  · exact fun _ _ _ h => h
  · refine Or.inl ⟨by rfl, ?_⟩
    intro w' hSw
    (try dsimp only at hSw)
    go_simp
    all_goals (with_reducible rfl)
  · assumption
  try simp only [Act.put, List.setIfInBounds_toArray, List.set_cons_zero, List.set_cons_succ]
  refine wpAnyH_take (i := 37) (oi := ?_) (v := ?_) ?_ ?_ ?_ ?_ ?_ ?_ ?_ ?_
  rotate_left 2
  · simp only [List.getElem?_toArray, List.getElem?_cons_succ, List.getElem?_cons_zero]; rfl
  · kernel_rfl
  · kernel_rfl
  · kernel_rfl
  · exact fun _ _ _ h => h
  · refine Or.inl ⟨by rfl, ?_⟩
    intro w' hSw
    (try dsimp only at hSw)
    go_simp
    all_goals (with_reducible rfl)
  · assumption
  try simp only [Act.put, List.setIfInBounds_toArray, List.set_cons_zero, List.set_cons_succ]
  refine wpAnyH_done (by kernel_rfl) ?_ _
  clear hHeld
  have ka0 : w15.cell? ⟨hb, 0, none⟩ = some (.slice Aa M ca) := by rw [blk_cell KA.out]; rfl
  have HKC := Lib.hid (lt_of_block KC.out)
  go_upto_region 12 with (fail)
  clear ka0 b1 b2
  go_loopg [67] M (fun k0 sj wr => ∃ j : Nat, j ≤ M ∧ Hid (k0 = M - j) ∧ sj = .int .i64 (j : Int) ∧ Hid (Below w15.heap.size w15 wr))
  case atStart => exact ⟨0, by omega, Lib.hid (by omega), rfl, Lib.hid (Below.refl _ _)⟩
  case round =>
    obtain ⟨j, hj, HK, rfl, HB⟩ := hrel
    by_cases hjn : j < M
    · as_aux_lemma =>
        have ja : j < rq.length := by rw [HM.out.1]; exact hjn
        obtain ⟨q, hq⟩ : ∃ q, q = rq[j] := ⟨_, rfl⟩
        obtain ⟨w16, hw16, hbk, hbl, hsz⟩ := box_new wr (rqA q) 41
        obtain ⟨b3, hb3⟩ : ∃ k, k = wr.heap.size := ⟨_, rfl⟩
        rw [← hb3] at hbk
        have B16 := Lib.hid (G.below_on HB.out hbl)
        obtain ⟨ga, fa, rfl, _, ha⟩ := (QA.out.below HB.out).at_ (by omega)
        obtain ⟨gc, fc, rfl, _, hc⟩ := (QC.out.below B16.out).at_ (by omega)
        obtain ⟨gd, fd, rfl, _, hd⟩ := (QD.out.below B16.out).at_ (by omega)
        obtain ⟨a0, a1, a2, a3, a4⟩ := ha j ja
        obtain ⟨c0, c1, c2, c3, c4⟩ := hc j ja
        obtain ⟨d0, d1, d2, d3, d4⟩ := hd j ja
        rw [← hq] at a0 a1 a2 a3 a4 c0 c1 c2 c3 c4 d0 d1 d2 d3 d4
        have kc := (KC.out.keep B16.out).rd
        have kb3 := hbk.rd
        have heq : ∀ w, (Op.equalIn 10000 41 (.agg (reqC q.op q.rule q.cost (strOfNums q.key) q.k)) (.agg (reqC q.op q.rule q.cost (strOfNums q.key) q.k))).run Try.prog w = .ok true w := fun w => by rw [req_equal]; simp
        have t6 : (0 : Int) ≤ (j : Int) := by omega
        have t7 : (j : Int) < (M : Int) := by omega
        have fi : IntKind.i64.wrap ((j : Int) + 1) = ((j + 1 : Nat) : Int) := by rw [IntKind.wrap_i64]; have := HM.out.2; omega
        have HJ := Lib.hid hjn
        have HB3 := Lib.hid hb3
        clear ha hc hd hq ja hbk hbl hsz hjn hb3
        go_upto_region 14 with (fail)
        try rw [← HB3.out]
        clear hw16
        go_quiet (fail)
        go_wp2
        go_roundg (M - (j + 1))
        case measure => have := HK.out; have := HJ.out; omega
        case rel => have hm := HM.out.2; have hj2 := HJ.out; exact ⟨j + 1, by omega, Lib.hid rfl, rfl, Lib.hid (below_draws B16.out _)⟩
    · have hje : j = M := by omega
      subst hje
      go_upto_region 17 with (fail)
      have hdr : Below w15.heap.size w15 wr.drew := below_draws HB.out 1
      have C16 := Lib.hid (C15.out.keep hdr)
      have CD1 := Lib.hid (cdrain_yes 300 L wr.drew C16.out.a.ch.c HOP.out (by rw [HLE.out.2]; have := HLE.out.1; omega))
      have KB16 := Lib.hid C16.out.b.ch.c.lt
      clear hdr
      refine wp_region_held_drew (S := fun _ => True) (by kernel_rfl) trivial (fun hHeld => ?_)
      refine wpAnyH_take (i := 0) (oi := ?_) (v := ?_) ?_ ?_ ?_ ?_ ?_ ?_ ?_ ?_
      rotate_left 2
      · simp only [List.getElem?_toArray, List.getElem?_cons_succ, List.getElem?_cons_zero]; rfl
      · kernel_rfl
      · kernel_rfl
      · kernel_rfl
      · exact fun _ _ _ h => h
      · refine Or.inl ⟨by rfl, ?_⟩
        intro w' hSw
        (try dsimp only at hSw)
        go_simp
        all_goals (with_reducible rfl)
      · assumption
      try simp only [Act.put, List.setIfInBounds_toArray, List.set_cons_zero, List.set_cons_succ]
      refine wpAnyH_take (i := 3) (oi := ?_) (v := ?_) ?_ ?_ ?_ ?_ ?_ ?_ ?_ ?_
      rotate_left 2
      · simp only [List.getElem?_toArray, List.getElem?_cons_succ, List.getElem?_cons_zero]; rfl
      · kernel_rfl
      · kernel_rfl
      · kernel_rfl
      · exact fun _ _ _ h => h
      · refine Or.inl ⟨by rfl, ?_⟩
        intro w' hSw
        (try dsimp only at hSw)
        go_simp
        all_goals (with_reducible rfl)
      · assumption
      try simp only [Act.put, List.setIfInBounds_toArray, List.set_cons_zero, List.set_cons_succ]
      refine wpAnyH_ready (rs := [1]) (by kernel_rfl) (by simp) ?_
      refine AllReadyH.cons (o := ?_) ?_ ?_ ?_
      rotate_left 1
      · simp only [List.getElem?_toArray, List.getElem?_cons_succ, List.getElem?_cons_zero]; rfl
      rotate_left 1
      · exact AllReadyH.nil
      intro K hK
      go_simp
      ((with_reducible refine CD1.out.mono ?_); rintro e w17 ⟨sc, rfl, k17, h17, f17, n17⟩; have C17 := Lib.hid (C16.out.cnA h17 f17); have RD := Lib.hid (rd_blk (n := L) k17 (by rw [List.length_take, HLE.out.2]; omega) (by have := HLE.out.1; unfold maxLen; omega) (fun z hz => u8_wf (HOB.out z (List.mem_of_mem_take hz)))); rw [List.take_of_length_le (by rw [HLE.out.2]; omega)] at RD; have SCN := Lib.hid n17; clear k17 h17 f17 n17)
      refine hK.out _ _ trivial (fun hHeld => ?_)
      clear hK K
      try simp only [Act.put, List.setIfInBounds_toArray, List.set_cons_zero, List.set_cons_succ]
      refine held_more (fun w' : World => RdI w' .u8 (some ⟨sc, 0, none⟩) L L σ2.out) (fun _ _ => trivial) _ _ _ _ ?_
      clear hHeld
      have hHeld : (fun w' : World => RdI w' .u8 (some ⟨sc, 0, none⟩) L L σ2.out) w17 := RD.out
      have HCV : ∀ w', RdI w' .u8 (some ⟨sc, 0, none⟩) L L σ2.out → (convert 27 9 (.slice (some ⟨sc, 0, none⟩) L L)).run Try.prog w' = .ok (.string X) w' := fun w' h => by rw [HX.out]; exact conv_str Try.underlying27 Try.underlying5 Try.underlying9 h
      refine wpAnyH_take (i := 2) (oi := ?_) (v := ?_) ?_ ?_ ?_ ?_ ?_ ?_ ?_ ?_
      rotate_left 2
      · simp only [List.getElem?_toArray, List.getElem?_cons_succ, List.getElem?_cons_zero]; rfl
      · kernel_rfl
      · kernel_rfl
      · kernel_rfl
      · exact fun _ _ _ h => h
      · refine Or.inl ⟨by rfl, ?_⟩
        intro w' hSw
        (try dsimp only at hSw)
        have cv := HCV w' hSw
        go_simp
        all_goals (with_reducible rfl)
      · assumption
      try simp only [Act.put, List.setIfInBounds_toArray, List.set_cons_zero, List.set_cons_succ]
      have CD2 := Lib.hid (cdrain_yes 300 L w17 C17.out.b.ch.c HOP.out (by rw [HLE.out.2]; have := HLE.out.1; omega))
      refine wpAnyH_ready (rs := [4]) (by kernel_rfl) (by simp) ?_
      refine AllReadyH.cons (o := ?_) ?_ ?_ ?_
      rotate_left 1
      · simp only [List.getElem?_toArray, List.getElem?_cons_succ, List.getElem?_cons_zero]; rfl
      rotate_left 1
      · exact AllReadyH.nil
      intro K hK
      go_simp
      ((with_reducible refine CD2.out.mono ?_); rintro e w18 ⟨sd, rfl, k18, h18, f18, n18⟩; have C18 := Lib.hid (C17.out.cnB h18 f18); have RD1 := Lib.hid (rdI_fr2 RD.out f18 (fun b off _ e hk => by injection e with e; injection e with e _; subst e; have := KB16.out _ hk; have := SCN.out; omega)); have cv := conv_str (P := Try.prog) (src := 27) (dst := 9) Try.underlying27 Try.underlying5 Try.underlying9 (rd_blk (n := L) k18 (by rw [List.length_take, HLE.out.2]; omega) (by have := HLE.out.1; unfold maxLen; omega) (fun z hz => u8_wf (HOB.out z (List.mem_of_mem_take hz)))); rw [List.take_of_length_le (by rw [HLE.out.2]; omega), ← HX.out] at cv; clear k18 h18 f18 n18)
      refine hK.out _ _ RD1.out (fun hHeld => ?_)
      clear hK K
      try simp only [Act.put, List.setIfInBounds_toArray, List.set_cons_zero, List.set_cons_succ]
      refine wpAnyH_ready (rs := [5]) (by kernel_rfl) (by simp) ?_
      refine AllReadyH.cons (o := ?_) ?_ ?_ ?_
      rotate_left 1
      · simp only [List.getElem?_toArray, List.getElem?_cons_succ, List.getElem?_cons_zero]; rfl
      rotate_left 1
      · exact AllReadyH.nil
      intro K hK
      go_simp
      skip
      refine hK.out _ _ hHeld (fun hHeld => ?_)
      clear hK K
      try simp only [Act.put, List.setIfInBounds_toArray, List.set_cons_zero, List.set_cons_succ]
      refine wpAnyH_take (i := 6) (oi := ?_) (v := ?_) ?_ ?_ ?_ ?_ ?_ ?_ ?_ ?_
      rotate_left 2
      · simp only [List.getElem?_toArray, List.getElem?_cons_succ, List.getElem?_cons_zero]; rfl
      · kernel_rfl
      · kernel_rfl
      · kernel_rfl
      · exact fun _ _ _ h => h
      · refine Or.inl ⟨by rfl, ?_⟩
        intro w' hSw
        (try dsimp only at hSw)
        go_simp
        all_goals (with_reducible rfl)
      · assumption
      try simp only [Act.put, List.setIfInBounds_toArray, List.set_cons_zero, List.set_cons_succ]
      refine wpAnyH_take (i := 7) (oi := ?_) (v := ?_) ?_ ?_ ?_ ?_ ?_ ?_ ?_ ?_
      rotate_left 2
      · simp only [List.getElem?_toArray, List.getElem?_cons_succ, List.getElem?_cons_zero]; rfl
      · kernel_rfl
      · kernel_rfl
      · kernel_rfl
      · exact fun _ _ _ h => h
      · refine Or.inl ⟨by rfl, ?_⟩
        intro w' hSw
        (try dsimp only at hSw)
        go_simp
        all_goals (with_reducible rfl)
      · assumption
      try simp only [Act.put, List.setIfInBounds_toArray, List.set_cons_zero, List.set_cons_succ]
      refine wpAnyH_done (by kernel_rfl) ?_ _
      clear hHeld cv HCV
      go_wp2
      go_ret
      exact ⟨rfl, C18.out.a.bl⟩
end Go.Proofs.Ytaghookljjpllaa
