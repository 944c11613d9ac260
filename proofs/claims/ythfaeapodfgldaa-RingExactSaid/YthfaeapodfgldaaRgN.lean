/- The contracts of layer 7 (ring): New, Bytes. -/
import Derived.Test.YthfaeapodfgldaaRgV
namespace Go.Proofs.Ythfaeapodfgldaa
set_option linter.unusedSimpArgs false
set_option linter.unusedVariables false
open Go.ChangeShapes Go.WideShapes Go.ChangeAt Go.RowKit
open Ar (inR)
/-- a rule as the calls have it. -/
abbrev rlV (L Wd B Sl Ce Ro Wi Tr : Int) (sm : Bool) : Value := .agg #[.int .i64 L, .int .i64 Wd, .int .i64 B, .int .i64 Sl, .int .i64 Ce, .int .i64 Ro, .int .i64 Wi, .int .i64 Tr, .bool sm]
abbrev rlC (L Wd B Sl Ce Ro Wi Tr : Int) (sm : Bool) : Array Value := #[.int .i64 L, .int .i64 Wd, .int .i64 B, .int .i64 Sl, .int .i64 Ce, .int .i64 Ro, .int .i64 Wi, .int .i64 Tr, .bool sm]
def encPv (a : Int × Value) : List Value := [.int .i64 a.1, a.2]
theorem encPv_len (a : Int × Value) : (encPv a).length = 2 := rfl
theorem rows_fr {w w' : World} {b k : Nat} {X A B : Nat → Nat} {F : Nat → Prop} (h : RowsAt w b k X A B) (hf : Fr F w w') (hF : ¬ F b) : RowsAt w' b k X A B := by
  obtain ⟨C, h1, h2, h3⟩ := h.blk
  exact ⟨C, (hf.block b (lt_of_block h1) hF).trans h1, h2, h3⟩
theorem rows_keep {w w' : World} {b k : Nat} {X A B : Nat → Nat} (h : RowsAt w b k X A B) (hb : Below w.heap.size w w') : RowsAt w' b k X A B := rows_fr (F := fun _ => False) h (Fr.of_below hb) id
theorem RowsAt.keep' {w w' : World} {b k : Nat} {X A B : Nat → Nat} (h : RowsAt w b k X A B) (hb : Below w.heap.size w w') : RowsAt w' b k X A B := rows_keep h hb
theorem rows_bl {w : World} {b k : Nat} {X A B : Nat → Nat} (h : RowsAt w b k X A B) : b < w.heap.size := by obtain ⟨C, h1, _⟩ := h.blk; exact lt_of_block h1
/-- the parts while they are made. -/
def ptV (n j : Nat) (bs : Nat → Nat) : List (Int × Value) := (List.range n).map fun i => (0, if i < j then .pointer (some ⟨bs i, 0, none⟩) else .pointer none)
theorem ptV_len (n j : Nat) (bs : Nat → Nat) : (ptV n j bs).length = n := by simp [ptV]
theorem ptV_zero (n : Nat) (bs : Nat → Nat) : ptV n 0 bs = List.replicate n (0, .pointer none) := by
  unfold ptV
  apply List.ext_getElem
  · simp
  · intro i h1 h2; simp
theorem ptV_get {n j : Nat} (bs : Nat → Nat) {i : Nat} (h : i < n) : (ptV n j bs)[i]? = some (0, if i < j then .pointer (some ⟨bs i, 0, none⟩) else .pointer none) := by
  unfold ptV
  rw [List.getElem?_map, List.getElem?_range h]; rfl
theorem ptV_set {n j : Nat} (bs : Nat → Nat) (hj : j < n) (b : Nat) : (ptV n j bs).set j (0, .pointer (some ⟨b, 0, none⟩)) = ptV n (j + 1) (updN bs j b) := by
  apply List.ext_getElem?
  intro i
  by_cases hi : i < n
  · rw [List.getElem?_set]
    by_cases e : j = i
    · subst e; rw [if_pos rfl, if_pos (by rw [ptV_len]; exact hi), ptV_get _ hi, if_pos (by omega), updN_self]
    · rw [if_neg e, ptV_get _ hi, ptV_get _ hi]
      by_cases hij : i < j
      · rw [if_pos hij, if_pos (by omega), updN_ne _ _ (Ne.symm e)]
      · rw [if_neg hij, if_neg (by omega)]
  · rw [List.getElem?_eq_none (by rw [List.length_set, ptV_len]; omega), List.getElem?_eq_none (by rw [ptV_len]; omega)]
theorem ptV_done {R : RgN} {n : Nat} {bs : Nat → Nat} (hn : R.n = n) (hb : R.bs = bs) : (rws encPv (ptV n n bs)) = rws encPt (ptL R fun _ => 0) := by
  have : ptV n n bs = (ptL R fun _ => 0).map fun a => (a.1, Value.pointer (some ⟨a.2, 0, none⟩)) := by
    unfold ptV ptL
    rw [hn, List.map_map]
    apply List.map_congr_left
    intro i hi
    rw [if_pos (List.mem_range.1 hi), hb]; rfl
  rw [this]
  unfold rws
  rw [List.flatMap_map]
  rfl
/-- the slots that were made. -/
structure MadeP (w : World) (B0 j k W : Nat) (X A B : Nat → Nat) (bs gs : Nat → Nat) : Prop where
  at_ : ∀ i, i < j → SlAt w ⟨bs i, gs i, k, W, X, A, B⟩ (fun _ _ => 0)
  lo : ∀ i, i < j → B0 ≤ bs i ∧ B0 ≤ gs i
  hi : ∀ i, i < j → bs i < w.heap.size ∧ gs i < w.heap.size
  ap : ∀ i i', i < j → i' < j → gs i ≠ bs i' ∧ (i ≠ i' → gs i ≠ gs i')
theorem MadeP.fr {w w' : World} {B0 j k W : Nat} {X A B : Nat → Nat} {bs gs : Nat → Nat} {F : Nat → Prop} (h : MadeP w B0 j k W X A B bs gs) (hf : Fr F w w') (hF : ∀ b, F b → b < B0) : MadeP w' B0 j k W X A B bs gs :=
  ⟨fun i hi => (h.at_ i hi).fr hf (fun e => by have h1 := hF _ e; have h2 := h.lo i hi; have : bs i < B0 := h1; omega) (fun e => by have h1 := hF _ e; have h2 := h.lo i hi; have : gs i < B0 := h1; omega), h.lo, fun i hi => by have := h.hi i hi; have := hf.size; omega, h.ap⟩
theorem MadeP.keep {w w' : World} {B0 j k W : Nat} {X A B : Nat → Nat} {bs gs : Nat → Nat} (h : MadeP w B0 j k W X A B bs gs) (hb : Below w.heap.size w w') : MadeP w' B0 j k W X A B bs gs := h.fr (F := fun _ => False) (Fr.of_below hb) (fun _ => False.elim)
theorem MadeP.step {w w' : World} {B0 j k W : Nat} {X A B : Nat → Nat} {bs gs : Nat → Nat} (h : MadeP w B0 j k W X A B bs gs) (hb : Below w.heap.size w w') (hB : B0 ≤ w.heap.size) {N : SlN} (hN : SlAt w' N (fun _ _ => 0)) (h1 : N.k = k ∧ N.W = W ∧ N.X = X ∧ N.A = A ∧ N.B = B) (h2 : w.heap.size ≤ N.b ∧ w.heap.size ≤ N.g) :
    MadeP w' B0 (j + 1) k W X A B (updN bs j N.b) (updN gs j N.g) := by
  have hk := h.keep hb
  have hlt : N.b < w'.heap.size ∧ N.g < w'.heap.size := by obtain ⟨C, c1, _⟩ := hN.hb; exact ⟨lt_of_block c1, lt_of_block hN.hg⟩
  have hne := hN.ne
  refine ⟨fun i hi => ?_, fun i hi => ?_, fun i hi => ?_, fun i i' hi hi' => ?_⟩
  · by_cases e : i = j
    · subst e
      rw [updN_self, updN_self]
      obtain ⟨r1, r2, r3, r4, r5⟩ := h1
      rw [← r1, ← r2, ← r3, ← r4, ← r5]; exact hN
    · rw [updN_ne _ _ e, updN_ne _ _ e]; exact hk.at_ i (by omega)
  · by_cases e : i = j
    · subst e; rw [updN_self, updN_self]; omega
    · rw [updN_ne _ _ e, updN_ne _ _ e]; exact hk.lo i (by omega)
  · by_cases e : i = j
    · subst e; rw [updN_self, updN_self]; exact hlt
    · rw [updN_ne _ _ e, updN_ne _ _ e]; exact hk.hi i (by omega)
  · by_cases e : i = j
    · by_cases e' : i' = j
      · subst e; subst e'; rw [updN_self, updN_self]; exact ⟨fun q => hne q.symm, fun q => absurd rfl q⟩
      · subst e
        rw [updN_self, updN_ne _ _ e', updN_ne _ _ e']
        have := h.hi i' (by omega)
        exact ⟨by omega, fun _ => by omega⟩
    · by_cases e' : i' = j
      · subst e'
        rw [updN_self, updN_ne _ _ e, updN_self]
        have := h.hi i (by omega)
        exact ⟨by omega, fun _ => by omega⟩
      · rw [updN_ne _ _ e, updN_ne _ _ e', updN_ne _ _ e']; exact h.ap i i' (by omega) (by omega)
theorem info_part : (Try.prog.info? 61).map (fun i => (i.zero, i.size, i.bytes)) = some (some (.agg #[.int .i64 0, .pointer none]), 2, 16) := by kernel_rfl
/-- the numbers of a ring that is made. -/
theorem new_nums {Sl k W : Nat} (hSl : Sl ≤ 64) (hk : 1 ≤ k) (hW : (Sl + 1) * (8 * (k * W)) ≤ 2147483647) : ∃ m q : Nat, m = k * W ∧ q ≤ 2147483647 ∧ 8 * m ≤ 2147483647 ∧ W ≤ m ∧ ((Sl + 1 : Nat) : Int) * (8 * (m : Int)) = (q : Int) := by
  have hbb : 8 * (k * W) ≤ (Sl + 1) * (8 * (k * W)) := Nat.le_mul_of_pos_left _ (Nat.succ_pos _)
  have hWk : W ≤ k * W := Nat.le_mul_of_pos_left _ hk
  refine ⟨k * W, (Sl + 1) * (8 * (k * W)), rfl, hW, Nat.le_trans hbb hW, hWk, ?_⟩
  simp only [Int.natCast_mul]; rfl
set_option maxRecDepth 100000 in
set_option maxHeartbeats 4000000 in
theorem rnew_any (L Wd Bu Ce Ro Tr : Int) (Sl s k W : Nat) (sm : Bool) (hL : inR L) (hWd : 0 ≤ Wd ∧ Wd ≤ 9223372036854775807) (hSl : 1 ≤ Sl ∧ Sl ≤ 64) (hs : Wd / (Sl : Int) = (s : Int) ∧ 1 ≤ s) (hk : 1 ≤ k ∧ k ≤ 8) (hW : 1 ≤ W ∧ (Sl + 1) * (8 * (k * W)) ≤ 2147483647)
    (b0 : Nat) (X A B : Nat → Nat) (w : World) (hr : RowsAt w b0 k X A B) (hl : ∀ j, j < k → X j < 2305843009213693951 ∧ A j < 2305843009213693951 ∧ B j < 2305843009213693951) :
    Calls Try.prog 13 #[rlV L Wd Bu Sl Ce Ro W Tr sm, .slice (some ⟨b0, 0, none⟩) k k] w fun e w' => ∃ R : RgN, e = .returned (.pointer (some ⟨R.x, 0, none⟩)) ∧ RgAt w' R ⟨0, fun _ => 0, fun _ _ _ => 0⟩ ∧ (R.n = Sl + 1 ∧ R.s = s ∧ R.L = L ∧ R.sm = sm ∧ R.k = k ∧ R.W = W ∧ R.X = X ∧ R.A = A ∧ R.B = B) ∧ (∀ b, R.all b → w.heap.size ≤ b) ∧ Below w.heap.size w w' := by
  have et : Wd.tdiv (Sl : Int) = (s : Int) := by rw [Int.tdiv_eq_ediv_of_nonneg hWd.1]; exact hs.1
  have hsle : (s : Int) ≤ 9223372036854775807 := by rw [← hs.1]; exact Int.le_trans (Int.ediv_le_self (Sl : Int) hWd.1) hWd.2
  have hs1 := hs.2
  have HSS := Lib.hid hs
  clear hs
  have HET := Lib.hid et
  clear et
  obtain ⟨w1, hw1, k1, l1, s1⟩ := box_new w (rlC L Wd Bu Sl Ce Ro W Tr sm) 29
  obtain ⟨rb, hrb⟩ : ∃ rb, rb = w.heap.size := ⟨_, rfl⟩
  rw [← hrb] at k1
  have kr := k1.rd
  have K1 := Lib.hid (And.intro k1 l1)
  have HRB := Lib.hid hrb
  have HR := Lib.hid hr
  have HL := Lib.hid hl
  obtain ⟨m, q, hm, hq, h8, hWm, hq2⟩ := new_nums hSl.2 hk.1 hW.2
  have HW := Lib.hid (show 1 ≤ W ∧ 8 * (k * W) ≤ 2147483647 from ⟨hW.1, by rw [← hm]; exact h8⟩)
  have hW1 := hW.1
  clear hW
  obtain ⟨n, hn⟩ : ∃ n, n = Sl + 1 := ⟨_, rfl⟩
  rw [← hn] at hq2
  have CB := Lib.hid (fun wx => sbytes_any k W HW.out.2 (Nat.le_trans hk.2 (by decide)) (by omega) wx)
  rw [← hm] at CB
  have HM := Lib.hid hm
  clear hm
  have CP := Lib.hid (fun wx => show Calls Try.prog 23 #[.int .i64 (n : Int), .int .i64 (8 * (m : Int))] wx (fun e w' => e = .returned (.int .i64 (q : Int)) ∧ wx = w') from by
    have := product_any (n : Int) (8 * (m : Int)) (by unfold inR; omega) (by unfold inR; omega) wx
    rw [hq2, clamp_in (by omega)] at this
    exact this)
  clear hq2
  have HN := Lib.hid (And.intro hn (And.intro hSl (And.intro hk (And.intro HW.out (And.intro HSS.out (And.intro hL hWd))))))
  have HSL := Lib.hid hsle
  have ew : IntKind.i64.wrap (s : Int) = (s : Int) := by rw [IntKind.wrap_i64]; omega
  have en : IntKind.i64.wrap ((Sl : Int) + 1) = (n : Int) := by rw [IntKind.wrap_i64]; omega
  have t1 : decide ((Sl : Int) < 1) = false := by rw [decide_eq_false_iff_not]; omega
  have t2 : decide ((64 : Int) < (Sl : Int)) = false := by rw [decide_eq_false_iff_not]; omega
  have t3 : decide ((s : Int) < 1) = false := decide_eq_false (Int.not_lt.2 (Int.ofNat_le.2 hs1))
  have t4 : ((k : Int) == 0) = false := by simp; omega
  have t5 : decide ((W : Int) < 1) = false := by rw [decide_eq_false_iff_not]; omega
  have t6 : decide ((2147483647 : Int) < (q : Int)) = false := by rw [decide_eq_false_iff_not]; omega
  have t7 : ¬ (Sl : Int) = 0 := by omega
  have t8 : ¬ Sl = 0 := by omega
  have t9 : (k : Int) ≤ 8 := by omega
  have tn : (n : Int) ≤ 65 := by omega
  obtain ⟨i0, hi, hz0, hz1, hz2⟩ := info_parts info_part
  have hmk := make_rws encPv_len (by omega) ((0, .pointer none) : Int × Value) (P := Try.prog) (t := 55) (e := 61) rfl Try.underlying55 hi hz0 hz1 hz2 n (by omega) (by omega)
  have CN := Lib.hid (fun wx (hb : RowsAt wx b0 k X A B) => snew_any k W hk HW.out b0 X A B wx hb HL.out)
  clear k1 l1 s1 hr hl hrb hn hq h8 hWm hSl hs1 hk hW1 hWd hL hi hz0 hz1 hz2 hsle
  have et := HET.out
  go_enter Try.func13, Try.ntmps13
  go_upto_region 1 with (fail)
  rw [← HRB.out]
  clear hw1
  go_upto_region 6 with (first
    | (go_at_call 24; ((with_reducible refine (CB.out _).mono ?_); rintro e w2 ⟨rfl, b2⟩; have B2 := Lib.hid b2; clear b2))
    | (go_at_call 23; ((with_reducible refine (CP.out _).mono ?_); rintro e w3 ⟨rfl, rfl⟩)))
  clear kr CB CP t1 t2 t3 t5 t6 en
  have KB := Lib.hid (K1.out.1.keep B2.out)
  have SBx := Lib.hid (fun wx (hb : Below w2.heap.size w2 wx) => show ∀ i, wx.cell? ⟨rb, i, none⟩ = (rlC L Wd Bu Sl Ce Ro W Tr sm)[i]? from (KB.out.keep hb).rd)
  have k2 : ∀ i, w2.drew.cell? ⟨rb, i, none⟩ = (rlC L Wd Bu Sl Ce Ro W Tr sm)[i]? := SBx.out _ (below_draws (Below.refl _ _) 1)
  obtain ⟨w3, hw3, k3, l3, s3⟩ := box_new w2 (rws encPv (List.replicate n ((0, .pointer none) : Int × Value))).toArray 61
  obtain ⟨w4, hw4, k4, l4, s4⟩ := box_new w3 #[.slice (some ⟨w2.heap.size, 0, none⟩) n n, .int .i64 (s : Int), .int .i64 L, .int .i64 0, .bool sm] 57
  have D3 := Lib.hid (show Below w2.heap.size w2 w3.drew from below_draws l3 1)
  have l24 : Below w2.heap.size w2 w4 := l3.trans (l4.mono l3.size)
  have D4 := Lib.hid (show Below w2.heap.size w2 w4.drew from below_draws l24 1)
  go_upto_region 6 with (fail)
  refine wp_region_held_drew (S := fun wx => ∀ i, wx.cell? ⟨rb, i, none⟩ = (rlC L Wd Bu Sl Ce Ro W Tr sm)[i]?) (by kernel_rfl) k2 (fun hHeld => ?_)
  refine wpAnyH_take (i := 0) (oi := ?_) (v := ?_) ?_ ?_ ?_ ?_ ?_ ?_ ?_ ?_
  rotate_left 2
  · simp only [List.getElem?_toArray, List.getElem?_cons_succ, List.getElem?_cons_zero]; rfl
  · kernel_rfl
  · kernel_rfl
  · kernel_rfl
  · exact fun _ _ _ h => h
  · refine Or.inl ⟨by rfl, ?_⟩
    intro w' hSw
    (try dsimp only at hSw)
    go_simp
    all_goals (with_reducible rfl)
  · assumption
  try simp only [Act.put, List.setIfInBounds_toArray, List.set_cons_zero, List.set_cons_succ]
  refine wpAnyH_take (i := 2) (oi := ?_) (v := ?_) ?_ ?_ ?_ ?_ ?_ ?_ ?_ ?_
  rotate_left 2
  · simp only [List.getElem?_toArray, List.getElem?_cons_succ, List.getElem?_cons_zero]; rfl
  · kernel_rfl
  · kernel_rfl
  · kernel_rfl
  · exact fun _ _ _ h => h
  · refine Or.inl ⟨by rfl, ?_⟩
    intro w' hSw
    (try dsimp only at hSw)
    go_simp
    all_goals (with_reducible rfl)
  · assumption
  try simp only [Act.put, List.setIfInBounds_toArray, List.set_cons_zero, List.set_cons_succ]
  refine wpAnyH_take (i := 3) (oi := ?_) (v := ?_) ?_ ?_ ?_ ?_ ?_ ?_ ?_ ?_
  rotate_left 2
  · simp only [List.getElem?_toArray, List.getElem?_cons_succ, List.getElem?_cons_zero]; rfl
  · kernel_rfl
  · kernel_rfl
  · kernel_rfl
  · exact fun _ _ _ h => h
  · refine Or.inl ⟨by rfl, ?_⟩
    intro w' hSw
    (try dsimp only at hSw)
    go_simp
    all_goals (with_reducible rfl)
  · assumption
  try simp only [Act.put, List.setIfInBounds_toArray, List.set_cons_zero, List.set_cons_succ]
  refine wpAnyH_take (i := 4) (oi := ?_) (v := ?_) ?_ ?_ ?_ ?_ ?_ ?_ ?_ ?_
  rotate_left 2
  · simp only [List.getElem?_toArray, List.getElem?_cons_succ, List.getElem?_cons_zero]; rfl
  · kernel_rfl
  · kernel_rfl
  · kernel_rfl
  · exact fun _ _ _ h => h
  · refine Or.inl ⟨by rfl, ?_⟩
    intro w' hSw
    (try dsimp only at hSw)
    go_simp
    all_goals (with_reducible rfl)
  · assumption
  try simp only [Act.put, List.setIfInBounds_toArray, List.set_cons_zero, List.set_cons_succ]
  refine wpAnyH_take (i := 5) (oi := ?_) (v := ?_) ?_ ?_ ?_ ?_ ?_ ?_ ?_ ?_
  rotate_left 2
  · simp only [List.getElem?_toArray, List.getElem?_cons_succ, List.getElem?_cons_zero]; rfl
  · kernel_rfl
  · kernel_rfl
  · kernel_rfl
  · exact fun _ _ _ h => h
  · refine Or.inl ⟨by rfl, ?_⟩
    intro w' hSw
    (try dsimp only at hSw)
    go_simp
    all_goals (with_reducible rfl)
  · assumption
  try simp only [Act.put, List.setIfInBounds_toArray, List.set_cons_zero, List.set_cons_succ]
  refine wpAnyH_take (i := 6) (oi := ?_) (v := ?_) ?_ ?_ ?_ ?_ ?_ ?_ ?_ ?_
  rotate_left 2
  · simp only [List.getElem?_toArray, List.getElem?_cons_succ, List.getElem?_cons_zero]; rfl
  · kernel_rfl
  · kernel_rfl
  · kernel_rfl
  · exact fun _ _ _ h => h
  · refine Or.inl ⟨by rfl, ?_⟩
    intro w' hSw
    (try dsimp only at hSw)
    go_simp
    all_goals (with_reducible rfl)
  · assumption
  try simp only [Act.put, List.setIfInBounds_toArray, List.set_cons_zero, List.set_cons_succ]
  refine wpAnyH_take (i := 7) (oi := ?_) (v := ?_) ?_ ?_ ?_ ?_ ?_ ?_ ?_ ?_
  rotate_left 2
  · simp only [List.getElem?_toArray, List.getElem?_cons_succ, List.getElem?_cons_zero]; rfl
  · kernel_rfl
  · kernel_rfl
  · kernel_rfl
  · exact fun _ _ _ h => h
  · refine Or.inl ⟨by rfl, ?_⟩
    intro w' hSw
    (try dsimp only at hSw)
    go_simp
    all_goals (with_reducible rfl)
  · assumption
  try simp only [Act.put, List.setIfInBounds_toArray, List.set_cons_zero, List.set_cons_succ]
  refine wpAnyH_take (i := 8) (oi := ?_) (v := ?_) ?_ ?_ ?_ ?_ ?_ ?_ ?_ ?_
  rotate_left 2
  · simp only [List.getElem?_toArray, List.getElem?_cons_succ, List.getElem?_cons_zero]; rfl
  · kernel_rfl
  · kernel_rfl
  · kernel_rfl
  · exact fun _ _ _ h => h
  · refine Or.inl ⟨by rfl, ?_⟩
    intro w' hSw
    (try dsimp only at hSw)
    go_simp
    all_goals (with_reducible rfl)
  · assumption
  try simp only [Act.put, List.setIfInBounds_toArray, List.set_cons_zero, List.set_cons_succ]
  refine wpAnyH_take (i := 9) (oi := ?_) (v := ?_) ?_ ?_ ?_ ?_ ?_ ?_ ?_ ?_
  rotate_left 2
  · simp only [List.getElem?_toArray, List.getElem?_cons_succ, List.getElem?_cons_zero]; rfl
  · kernel_rfl
  · kernel_rfl
  · kernel_rfl
  · exact fun _ _ _ h => h
  · refine Or.inl ⟨by rfl, ?_⟩
    intro w' hSw
    (try dsimp only at hSw)
    go_simp
    all_goals (with_reducible rfl)
  · assumption
  try simp only [Act.put, List.setIfInBounds_toArray, List.set_cons_zero, List.set_cons_succ]
  refine wpAnyH_take (i := 10) (oi := ?_) (v := ?_) ?_ ?_ ?_ ?_ ?_ ?_ ?_ ?_
  rotate_left 2
  · simp only [List.getElem?_toArray, List.getElem?_cons_succ, List.getElem?_cons_zero]; rfl
  · kernel_rfl
  · kernel_rfl
  · kernel_rfl
  · exact fun _ _ _ h => h
  · refine Or.inl ⟨by rfl, ?_⟩
    intro w' hSw
    (try dsimp only at hSw)
    go_simp
    all_goals (with_reducible rfl)
  · assumption
  try simp only [Act.put, List.setIfInBounds_toArray, List.set_cons_zero, List.set_cons_succ]
  refine wpAnyH_ready (rs := [1]) (by kernel_rfl) (by simp) ?_
  refine AllReadyH.cons (o := ?_) ?_ ?_ ?_
  rotate_left 1
  · simp only [List.getElem?_toArray, List.getElem?_cons_succ, List.getElem?_cons_zero]; rfl
  rotate_left 1
  · exact AllReadyH.nil
  intro K hK
  go_simp
  skip
  refine hK.out _ _ (SBx.out _ D3.out) (fun hHeld => ?_)
  clear hK K
  try simp only [Act.put, List.setIfInBounds_toArray, List.set_cons_zero, List.set_cons_succ]
  refine wpAnyH_take (i := 11) (oi := ?_) (v := ?_) ?_ ?_ ?_ ?_ ?_ ?_ ?_ ?_
  rotate_left 2
  · simp only [List.getElem?_toArray, List.getElem?_cons_succ, List.getElem?_cons_zero]; rfl
  · kernel_rfl
  · kernel_rfl
  · kernel_rfl
  · exact fun _ _ _ h => h
  · refine Or.inl ⟨by rfl, ?_⟩
    intro w' hSw
    (try dsimp only at hSw)
    go_simp
    all_goals (with_reducible rfl)
  · assumption
  try simp only [Act.put, List.setIfInBounds_toArray, List.set_cons_zero, List.set_cons_succ]
  refine wpAnyH_ready (rs := [12]) (by kernel_rfl) (by simp) ?_
  refine AllReadyH.cons (o := ?_) ?_ ?_ ?_
  rotate_left 1
  · simp only [List.getElem?_toArray, List.getElem?_cons_succ, List.getElem?_cons_zero]; rfl
  rotate_left 1
  · exact AllReadyH.nil
  intro K hK
  go_simp
  skip
  refine hK.out _ _ (SBx.out _ D4.out) (fun hHeld => ?_)
  clear hK K
  try simp only [Act.put, List.setIfInBounds_toArray, List.set_cons_zero, List.set_cons_succ]
  refine wpAnyH_take (i := 13) (oi := ?_) (v := ?_) ?_ ?_ ?_ ?_ ?_ ?_ ?_ ?_
  rotate_left 2
  · simp only [List.getElem?_toArray, List.getElem?_cons_succ, List.getElem?_cons_zero]; rfl
  · kernel_rfl
  · kernel_rfl
  · kernel_rfl
  · exact fun _ _ _ h => h
  · refine Or.inl ⟨by rfl, ?_⟩
    intro w' hSw
    (try dsimp only at hSw)
    go_simp
    all_goals (with_reducible rfl)
  · assumption
  try simp only [Act.put, List.setIfInBounds_toArray, List.set_cons_zero, List.set_cons_succ]
  refine wpAnyH_done (by kernel_rfl) ?_ _
  clear hHeld k2 hmk et ew
  obtain ⟨pb, hpb⟩ : ∃ pb, pb = w2.heap.size := ⟨_, rfl⟩
  obtain ⟨xb, hxb⟩ : ∃ xb, xb = w3.heap.size := ⟨_, rfl⟩
  have e34 : w3.heap.size = w2.heap.size + 1 := s3
  have K4 := Lib.hid (show Blk w4.drew pb 61 (rws encPv (ptV n 0 fun _ => 0)).toArray ∧ Blk w4.drew xb 57 #[.slice (some ⟨pb, 0, none⟩) n n, .int .i64 (s : Int), .int .i64 L, .int .i64 0, .bool sm] from ⟨by rw [ptV_zero, hpb]; exact (k3.keep l4).drew, by rw [hxb, hpb]; exact k4.drew⟩)
  have HPX := Lib.hid (show w.heap.size ≤ rb ∧ rb < pb ∧ pb < xb ∧ xb < w4.drew.heap.size ∧ w4.drew.heap.size = xb + 1 from by
    have h1 := HRB.out
    have h2 := lt_of_block KB.out
    have h3 : w4.drew.heap.size = w4.heap.size := rfl
    omega)
  have D0 := Lib.hid (show Below w.heap.size w w4.drew from (K1.out.2.trans (B2.out.mono K1.out.2.size)).trans (D4.out.mono (Nat.le_trans K1.out.2.size B2.out.size)))
  have KR4 := Lib.hid (KB.out.keep D4.out)
  rw [← hpb]
  generalize w4.drew = w5 at K4 HPX D0 KR4 ⊢
  have hxb' : pb + 1 = xb := by omega
  simp only [hxb']
  have kx := K4.out.2.rd
  have RW0 := Lib.hid (HR.out.below D0.out (rows_bl HR.out))
  have BLr := Lib.hid (rows_bl HR.out)
  clear hw3 hw4 k3 k4 l3 l4 s3 s4 l24 hpb hxb e34 hxb'
  go_wp2
  clear kx
  go_loopg [63] n (fun kk si wr => ∃ (j : Nat) (bs gs : Nat → Nat), j ≤ n ∧ Hid (kk = n - j) ∧ si = .int .i64 (j : Int) ∧ Hid (MadeP wr (xb + 1) j k W X A B bs gs) ∧ Hid (Blk wr pb 61 (rws encPv (ptV n j bs)).toArray) ∧ Hid (Blk wr xb 57 #[.slice (some ⟨pb, 0, none⟩) n n, .int .i64 (s : Int), .int .i64 L, .int .i64 0, .bool sm]) ∧ Hid (Blk wr rb 29 (rlC L Wd Bu Sl Ce Ro W Tr sm)) ∧ Hid (RowsAt wr b0 k X A B) ∧ Hid (Below w.heap.size w wr) ∧ Hid (xb + 1 ≤ wr.heap.size))
  case atStart => exact ⟨0, fun _ => 0, fun _ => 0, by omega, Lib.hid rfl, rfl, Lib.hid ⟨(fun i h => absurd h (by omega)), (fun i h => absurd h (by omega)), (fun i h => absurd h (by omega)), (fun i i' h => absurd h (by omega))⟩, Lib.hid K4.out.1, Lib.hid K4.out.2, KR4, RW0, D0, Lib.hid (by have := HPX.out; omega)⟩
  case round =>
    obtain ⟨j, bs, gs, hj, HKK, rfl, HM, HPB, HXB, HRL, HRW, HBL, HSZ⟩ := hrel
    have kx := HXB.out.rd
    by_cases hjn : j < n
    · have SB := Lib.hid (fun wx (hb : Below wr.heap.size wr wx) => show (∀ i, wx.cell? ⟨xb, i, none⟩ = (#[.slice (some ⟨pb, 0, none⟩) n n, .int .i64 (s : Int), .int .i64 L, .int .i64 0, .bool sm] : Array Value)[i]?) ∧ (∀ i, wx.cell? ⟨rb, i, none⟩ = (rlC L Wd Bu Sl Ce Ro W Tr sm)[i]?) from ⟨(HXB.out.keep hb).rd, (HRL.out.keep hb).rd⟩)
      have D1 := Lib.hid (show Below wr.heap.size wr wr.drew from below_draws (Below.refl _ _) 1)
      have CN2 := Lib.hid (CN.out wr.drew (HRW.out.keep' D1.out))
      have tj : (j : Int) < (n : Int) := by omega
      have HJ := Lib.hid hjn
      clear hjn kx
      go_upto_region 10 with (fail)
      refine wp_region_held_drew (S := fun wx => (∀ i, wx.cell? ⟨xb, i, none⟩ = (#[.slice (some ⟨pb, 0, none⟩) n n, .int .i64 (s : Int), .int .i64 L, .int .i64 0, .bool sm] : Array Value)[i]?) ∧ (∀ i, wx.cell? ⟨rb, i, none⟩ = (rlC L Wd Bu Sl Ce Ro W Tr sm)[i]?)) (by kernel_rfl) (SB.out _ D1.out) (fun hHeld => ?_)
      refine wpAnyH_take (i := 0) (oi := ?_) (v := ?_) ?_ ?_ ?_ ?_ ?_ ?_ ?_ ?_
      rotate_left 2
      · simp only [List.getElem?_toArray, List.getElem?_cons_succ, List.getElem?_cons_zero]; rfl
      · kernel_rfl
      · kernel_rfl
      · kernel_rfl
      · exact fun _ _ _ h => h
      · refine Or.inl ⟨by rfl, ?_⟩
        intro w' hSw
        (try dsimp only at hSw)
        go_simp
        all_goals (with_reducible rfl)
      · assumption
      try simp only [Act.put, List.setIfInBounds_toArray, List.set_cons_zero, List.set_cons_succ]
      refine wpAnyH_take (i := 1) (oi := ?_) (v := ?_) ?_ ?_ ?_ ?_ ?_ ?_ ?_ ?_
      rotate_left 2
      · simp only [List.getElem?_toArray, List.getElem?_cons_succ, List.getElem?_cons_zero]; rfl
      · kernel_rfl
      · kernel_rfl
      · kernel_rfl
      · exact fun _ _ _ h => h
      · refine Or.inl ⟨by rfl, ?_⟩
        intro w' hSw
        (try dsimp only at hSw)
        go_simp
        all_goals (with_reducible rfl)
      · assumption
      try simp only [Act.put, List.setIfInBounds_toArray, List.set_cons_zero, List.set_cons_succ]
      refine wpAnyH_take (i := 2) (oi := ?_) (v := ?_) ?_ ?_ ?_ ?_ ?_ ?_ ?_ ?_
      rotate_left 2
      · simp only [List.getElem?_toArray, List.getElem?_cons_succ, List.getElem?_cons_zero]; rfl
      · kernel_rfl
      · kernel_rfl
      · kernel_rfl
      · exact fun _ _ _ h => h
      · refine Or.inl ⟨by rfl, ?_⟩
        intro w' hSw
        (try dsimp only at hSw)
        go_simp
        all_goals (with_reducible rfl)
      · assumption
      try simp only [Act.put, List.setIfInBounds_toArray, List.set_cons_zero, List.set_cons_succ]
      refine wpAnyH_take (i := 3) (oi := ?_) (v := ?_) ?_ ?_ ?_ ?_ ?_ ?_ ?_ ?_
      rotate_left 2
      · simp only [List.getElem?_toArray, List.getElem?_cons_succ, List.getElem?_cons_zero]; rfl
      · kernel_rfl
      · kernel_rfl
      · kernel_rfl
      · exact fun _ _ _ h => h
      · refine Or.inl ⟨by rfl, ?_⟩
        intro w' hSw
        (try dsimp only at hSw)
        go_simp
        all_goals (with_reducible rfl)
      · assumption
      try simp only [Act.put, List.setIfInBounds_toArray, List.set_cons_zero, List.set_cons_succ]
      refine wpAnyH_take (i := 4) (oi := ?_) (v := ?_) ?_ ?_ ?_ ?_ ?_ ?_ ?_ ?_
      rotate_left 2
      · simp only [List.getElem?_toArray, List.getElem?_cons_succ, List.getElem?_cons_zero]; rfl
      · kernel_rfl
      · kernel_rfl
      · kernel_rfl
      · exact fun _ _ _ h => h
      · refine Or.inl ⟨by rfl, ?_⟩
        intro w' hSw
        (try dsimp only at hSw)
        go_simp
        all_goals (with_reducible rfl)
      · assumption
      try simp only [Act.put, List.setIfInBounds_toArray, List.set_cons_zero, List.set_cons_succ]
      refine wpAnyH_take (i := 5) (oi := ?_) (v := ?_) ?_ ?_ ?_ ?_ ?_ ?_ ?_ ?_
      rotate_left 2
      · simp only [List.getElem?_toArray, List.getElem?_cons_succ, List.getElem?_cons_zero]; rfl
      · kernel_rfl
      · kernel_rfl
      · kernel_rfl
      · exact fun _ _ _ h => h
      · refine Or.inl ⟨by rfl, ?_⟩
        intro w' hSw
        (try dsimp only at hSw)
        go_simp
        all_goals (with_reducible rfl)
      · assumption
      try simp only [Act.put, List.setIfInBounds_toArray, List.set_cons_zero, List.set_cons_succ]
      refine wpAnyH_take (i := 6) (oi := ?_) (v := ?_) ?_ ?_ ?_ ?_ ?_ ?_ ?_ ?_
      rotate_left 2
      · simp only [List.getElem?_toArray, List.getElem?_cons_succ, List.getElem?_cons_zero]; rfl
      · kernel_rfl
      · kernel_rfl
      · kernel_rfl
      · exact fun _ _ _ h => h
      · refine Or.inl ⟨by rfl, ?_⟩
        intro w' hSw
        (try dsimp only at hSw)
        go_simp
        all_goals (with_reducible rfl)
      · assumption
      try simp only [Act.put, List.setIfInBounds_toArray, List.set_cons_zero, List.set_cons_succ]
      refine wpAnyH_take (i := 7) (oi := ?_) (v := ?_) ?_ ?_ ?_ ?_ ?_ ?_ ?_ ?_
      rotate_left 2
      · simp only [List.getElem?_toArray, List.getElem?_cons_succ, List.getElem?_cons_zero]; rfl
      · kernel_rfl
      · kernel_rfl
      · kernel_rfl
      · exact fun _ _ _ h => h
      · refine Or.inl ⟨by rfl, ?_⟩
        intro w' hSw
        (try dsimp only at hSw)
        go_simp
        all_goals (with_reducible rfl)
      · assumption
      try simp only [Act.put, List.setIfInBounds_toArray, List.set_cons_zero, List.set_cons_succ]
      refine wpAnyH_ready (rs := [8]) (by kernel_rfl) (by simp) ?_
      refine AllReadyH.cons (o := ?_) ?_ ?_ ?_
      rotate_left 1
      · simp only [List.getElem?_toArray, List.getElem?_cons_succ, List.getElem?_cons_zero]; rfl
      rotate_left 1
      · exact AllReadyH.nil
      intro K hK
      go_simp
      ((with_reducible refine CN2.out.mono ?_); rintro e wn ⟨N, rfl, sn, n1, n2, n3, n4, n5, o1, o2, bn⟩; have D2 := Lib.hid (D1.out.trans (bn.mono D1.out.size)); have NN := Lib.hid (And.intro sn (And.intro (And.intro n1 (And.intro n2 (And.intro n3 (And.intro n4 n5)))) (And.intro (show wr.heap.size ≤ N.b from o1) (show wr.heap.size ≤ N.g from o2)))); have HP2 := Lib.hid (HPB.out.keep D2.out); have kp1 : wn.cell? ⟨pb, j * 2 + 1, none⟩ = some (.pointer none) := (rws_cell encPv_len HP2.out (ptV_get bs HJ.out) (j := 1) (by omega)).trans (by show some (if j < j then _ else _) = _; rw [if_neg (Nat.lt_irrefl j)]); have kpw := HP2.out.wr; clear sn n1 n2 n3 n4 n5 o1 o2 bn)
      refine hK.out _ _ (SB.out _ D2.out) (fun hHeld => ?_)
      clear hK K
      try simp only [Act.put, List.setIfInBounds_toArray, List.set_cons_zero, List.set_cons_succ]
      refine wpAnyH_take (i := 9) (oi := ?_) (v := ?_) ?_ ?_ ?_ ?_ ?_ ?_ ?_ ?_
      rotate_left 2
      · simp only [List.getElem?_toArray, List.getElem?_cons_succ, List.getElem?_cons_zero]; rfl
      · kernel_rfl
      · kernel_rfl
      · kernel_rfl
      · exact fun _ _ _ h => h
      · refine Or.inl ⟨by rfl, ?_⟩
        intro w' hSw
        (try dsimp only at hSw)
        go_simp
        all_goals (with_reducible rfl)
      · assumption
      try simp only [Act.put, List.setIfInBounds_toArray, List.set_cons_zero, List.set_cons_succ]
      refine wpAnyH_take (i := 10) (oi := ?_) (v := ?_) ?_ ?_ ?_ ?_ ?_ ?_ ?_ ?_
      rotate_left 2
      · simp only [List.getElem?_toArray, List.getElem?_cons_succ, List.getElem?_cons_zero]; rfl
      · kernel_rfl
      · kernel_rfl
      · kernel_rfl
      · exact fun _ _ _ h => h
      · refine Or.inl ⟨by rfl, ?_⟩
        intro w' hSw
        (try dsimp only at hSw)
        go_simp
        all_goals (with_reducible rfl)
      · assumption
      try simp only [Act.put, List.setIfInBounds_toArray, List.set_cons_zero, List.set_cons_succ]
      refine wpAnyH_ready (rs := [11]) (by kernel_rfl) (by simp) ?_
      refine AllReadyH.cons (o := ?_) ?_ ?_ ?_
      rotate_left 1
      · simp only [List.getElem?_toArray, List.getElem?_cons_succ, List.getElem?_cons_zero]; rfl
      rotate_left 1
      · exact AllReadyH.nil
      intro K hK
      go_simp
      (rw [show wn.setCell ⟨pb, j * 2 + 1, none⟩ (.pointer (some ⟨N.b, 0, none⟩)) = setObj wn pb (.cells (rws encPv (ptV n (j + 1) (updN bs j N.b))).toArray 61 (0, 0)) from by (have := rws_store_one (v := .pointer (some ⟨N.b, 0, none⟩)) encPv_len HP2.out (ptV_get bs HJ.out) (j := 1) (a' := (0, .pointer (some ⟨N.b, 0, none⟩))) rfl (by omega); rw [ptV_set bs HJ.out] at this; exact this)]; have F5 := Lib.hid (Fr.setObj (F := fun b => b = pb) (Fr.refl _ wn) rfl (.cells (rws encPv (ptV n (j + 1) (updN bs j N.b))).toArray 61 (0, 0))); have K5 := Lib.hid (show Blk (setObj wn pb (.cells (rws encPv (ptV n (j + 1) (updN bs j N.b))).toArray 61 (0, 0))) pb 61 (rws encPv (ptV n (j + 1) (updN bs j N.b))).toArray from setObj_at (lt_of_block HP2.out) _); have HX5 := Lib.hid ((HXB.out.keep D2.out).fr F5.out (fun e => by have := HPX.out; omega)); have HR5 := Lib.hid ((HRL.out.keep D2.out).fr F5.out (fun e => by have := HPX.out; omega)); have HW5 := Lib.hid (rows_fr (HRW.out.keep' D2.out) F5.out (fun e => by have := HPX.out; have := BLr.out; omega)); have HM5 := Lib.hid ((HM.out.step D2.out HSZ.out NN.out.1 NN.out.2.1 NN.out.2.2).fr F5.out (fun b hb => by have := HPX.out; omega)); have HB5 := Lib.hid ((HBL.out.trans (D2.out.mono HBL.out.size)).trans (F5.out.below (Nat.le_trans HBL.out.size D2.out.size) (fun b hb => by have := HPX.out; omega))); have HS5 := Lib.hid (Nat.le_trans HSZ.out (Nat.le_trans D2.out.size F5.out.size)); clear kp1 kpw F5; generalize (setObj wn pb (.cells (rws encPv (ptV n (j + 1) (updN bs j N.b))).toArray 61 (0, 0))) = w9 at K5 HX5 HR5 HW5 HM5 HB5 HS5 ⊢; skip)
      refine hK.out _ _ ⟨HX5.out.rd, HR5.out.rd⟩ (fun hHeld => ?_)
      clear hK K
      try simp only [Act.put, List.setIfInBounds_toArray, List.set_cons_zero, List.set_cons_succ]
      refine wpAnyH_done (by kernel_rfl) ?_ _
      clear hHeld
      go_wp2
      go_roundg (n - (j + 1))
      case measure => have := HKK.out; have := HJ.out; omega
      case rel => exact ⟨j + 1, _, _, HJ.out, Lib.hid rfl, by go_num, HM5, K5, HX5, HR5, HW5, HB5, HS5⟩
    · have hje : j = n := by omega
      have tj : ¬ ((j : Int) < (n : Int)) := by omega
      have HJ := Lib.hid hje
      clear hjn hje
      go_wp2
      go_ret
      have hpx := HPX.out
      obtain ⟨hn, hSl, hk, hW, hs, hL, hWd⟩ := HN.out
      have hj := HJ.out
      have hm := HM.out
      rw [hj] at hm
      have hpb := HPB.out
      rw [hj] at hpb
      have e1 : rws encPv (ptV n n bs) = rws encPt (ptL ⟨xb, pb, n, s, L, sm, k, W, X, A, B, bs, gs⟩ fun _ => 0) := ptV_done (R := ⟨xb, pb, n, s, L, sm, k, W, X, A, B, bs, gs⟩) rfl rfl
      rw [e1] at hpb
      refine ⟨⟨xb, pb, n, s, L, sm, k, W, X, A, B, bs, gs⟩, rfl, ⟨HXB.out, hpb, fun i hi => hm.at_ i hi, Nat.ne_of_gt hpx.2.2.1, fun i hi => ?_, fun i i' hi hi' => hm.ap i i' hi hi', ⟨⟨?_, ?_⟩, ⟨hs.2, Int.ofNat_le.1 HSL.out⟩, hL⟩, ?_, fun i => ?_⟩, ⟨hn, rfl, rfl, rfl, rfl, rfl, rfl, rfl, rfl⟩, ?_, HBL.out⟩
      · have h1 := hm.lo i hi
        show (bs i ≠ xb ∧ bs i ≠ pb) ∧ gs i ≠ xb ∧ gs i ≠ pb
        clear hs
        omega
      · show 2 ≤ n
        clear hs
        omega
      · show n ≤ 65
        clear hs
        omega
      · show (0 : Int) ≤ 0 ∧ (0 : Int) ≤ 9223372036854775807
        clear hs
        omega
      · show (0 : Int) ≤ 0 ∧ (0 : Int) ≤ 9223372036854775807
        clear hs
        omega
      · rintro b ((hb | hb | ⟨i, hi, hb⟩) | ⟨i, hi, hb⟩)
        · have hb : b = xb := hb
          clear hs
          omega
        · have hb : b = pb := hb
          clear hs
          omega
        · have h1 := hm.lo i hi
          have hb : b = gs i := hb
          clear hs
          omega
        · have h1 := hm.lo i hi
          have hb : b = bs i := hb
          clear hs
          omega
end Go.Proofs.Ythfaeapodfgldaa
