/- The reference's cell (weighbridgeref09): plain mathematics; Unit, one. -/
import Derived.Test.YtfegoehiopkcnaaRows
import Derived.Test.YtfegoehiopkcnaaGen
import Derived.Test.YtfegoehiopkcnaaPhase
import Derived.WalkKit
import Derived.ProofKit
import Derived.OpenShut
import Derived.Deep.RegionHeld3
import Derived.BigQuiet
import Derived.Deep.CutRange
import Derived.IntWalk
namespace Go.Proofs.Ytfegoehiopkcnaa.R9
set_option linter.unusedSimpArgs false
set_option linter.unusedVariables false
set_option maxRecDepth 100000
open Go Go.ChangeShapes Go.WideShapes Go.ChangeAt Go.RowKit
/-- a unit: the least time by which no more than the limit fits. -/
def unit9 (W n : Int) : Int := if W.tdiv n * n < W then W.tdiv n + 1 else W.tdiv n
abbrev rvV (L W B x1 x2 x3 x4 x5 : Int) (sm : Bool) : Value := .agg #[.int .i64 L, .int .i64 W, .int .i64 B, .int .i64 x1, .int .i64 x2, .int .i64 x3, .int .i64 x4, .int .i64 x5, .bool sm]
abbrev rvC (L W B x1 x2 x3 x4 x5 : Int) (sm : Bool) : Array Value := #[.int .i64 L, .int .i64 W, .int .i64 B, .int .i64 x1, .int .i64 x2, .int .i64 x3, .int .i64 x4, .int .i64 x5, .bool sm]
abbrev cvV (F S C D : Int) : Value := .agg #[.int .i64 F, .int .i64 S, .int .i64 C, .int .i64 D]
abbrev cvC (F S C D : Int) : Array Value := #[.int .i64 F, .int .i64 S, .int .i64 C, .int .i64 D]
/-- how much conforms, the carry aside. -/
def base (F U B t : Int) : Int := max 0 (min ((t + B * U - max F t).tdiv U) B)
def rest (C D L : Int) : Int := max 0 (L - (C + D))
def room (F S C D U W B L t : Int) : Int := if t < S + W then min (base F U B t) (rest C D L) else base F U B t
def wait (F S C D U W B L t cost : Int) : Int := (if max t (F - (B - cost) * U) < S + W ∧ rest C D L < cost then S + W else max t (F - (B - cost) * U)) - t
/-- a rule's numbers. -/
structure Ru (U W B L : Int) : Prop where
  u : U = unit9 W (L + 1 - B)
  W : 1 ≤ W ∧ W ≤ 1048576
  B : 1 ≤ B ∧ B ≤ L
  L : L ≤ 1048576
/-- a cell's. -/
structure Ce (F S C D t : Int) : Prop where
  F : 0 ≤ F ∧ F ≤ 6917529027641081856
  S : 0 ≤ S ∧ S ≤ 4611686018427387904
  C : 0 ≤ C ∧ C ≤ 4611686018427387904
  D : 0 ≤ D ∧ D ≤ 1152921504606846976
  t : 0 ≤ t ∧ t ≤ 4611686018427387904
section
variable {F S C D U W B L t : Int}
theorem unit_facts {n : Int} (hW : 1 ≤ W) (hn : 1 ≤ n) : 0 ≤ W.tdiv n ∧ W.tdiv n * n ≤ W ∧ W.tdiv n ≤ W := by
  have h0 : 0 ≤ W.tdiv n := Int.tdiv_nonneg (by omega) (by omega)
  have h1 : W.tdiv n * n ≤ W := by
    rw [Int.tdiv_eq_ediv_of_nonneg (by omega)]
    exact Int.ediv_mul_le W (by omega)
  have h2 : W.tdiv n * 1 ≤ W.tdiv n * n := Int.mul_le_mul_of_nonneg_left hn h0
  exact ⟨h0, h1, by omega⟩
theorem Ru.ub (h : Ru U W B L) : 1 ≤ U ∧ U ≤ 1048577 := by
  have hn : 1 ≤ L + 1 - B := by have := h.B; omega
  obtain ⟨h0, h1, h2⟩ := unit_facts h.W.1 hn
  have hW := h.W
  rw [h.u]
  unfold unit9
  split
  · omega
  · rename_i q
    have : W.tdiv (L + 1 - B) ≠ 0 := fun e => by rw [e, Int.zero_mul] at q; omega
    omega
theorem Ru.bu (h : Ru U W B L) {k : Int} (h0 : 0 ≤ k) (hk : k ≤ B) : 0 ≤ k * U ∧ k * U ≤ 1099512676352 ∧ k * U ≤ B * U := by
  have hu := h.ub
  have hB := h.B
  have hL := h.L
  have h1 : 0 ≤ k * U := Int.mul_nonneg h0 (by omega)
  have h2 : k * U ≤ B * U := Int.mul_le_mul_of_nonneg_right hk (by omega)
  have h3 : B * U ≤ 1048576 * 1048577 := Int.mul_le_mul (by omega) hu.2 (by omega) (by omega)
  exact ⟨h1, by omega, h2⟩
theorem le_td {k x : Int} (hU : 1 ≤ U) (hk : 1 ≤ k) : k ≤ x.tdiv U ↔ k * U ≤ x := by
  rcases Int.lt_or_le x 0 with hx | hx
  · have h1 : x.tdiv U ≤ 0 := by
      have : 0 ≤ (-x).tdiv U := Int.tdiv_nonneg (by omega) (by omega)
      rw [Int.neg_tdiv] at this
      omega
    have h2 : 0 ≤ k * U := Int.mul_nonneg (by omega) (by omega)
    constructor <;> intro h <;> omega
  · rw [Int.tdiv_eq_ediv_of_nonneg hx]
    exact Int.le_ediv_iff_mul_le (by omega)
theorem base_iff {k : Int} (hU : 1 ≤ U) (hk : 1 ≤ k) : k ≤ base F U B t ↔ k ≤ B ∧ k * U + max F t ≤ t + B * U := by
  have h := le_td (x := t + B * U - max F t) hU hk
  unfold base
  generalize (t + B * U - max F t).tdiv U = q at *
  generalize k * U = ku at *
  generalize B * U = bu at *
  constructor
  · intro g; have : k ≤ q := by omega
    have := h.1 this; omega
  · intro g; have : k ≤ q := h.2 (by omega)
    omega
theorem base_lo : 0 ≤ base F U B t := by unfold base; omega
theorem base_hi (hB : 0 ≤ B) : base F U B t ≤ B := by unfold base; omega
theorem room_base : room F S C D U W B L t ≤ base F U B t := by unfold room; split <;> omega
theorem room_lo : 0 ≤ room F S C D U W B L t := by
  have := base_lo (F := F) (U := U) (B := B) (t := t); unfold room rest; split <;> omega
/-- where a cell is behind so many units. -/
def fz (F U t k : Int) : Int := if k = 0 then F else max F t + k * U
theorem fz_zero : fz F U t 0 = F := if_pos rfl
theorem fz_max {k : Int} (hU : 0 ≤ U) (h0 : 0 ≤ k) : max (fz F U t k) t = max F t + k * U := by
  unfold fz
  have := Int.mul_nonneg h0 hU
  split
  · rename_i e; rw [e, Int.zero_mul]; omega
  · omega
/-- one more unit conforms just so long. -/
theorem one_iff {k : Int} (hU : 1 ≤ U) (h0 : 0 ≤ k) : k + 1 ≤ base F U B t ↔ k < B ∧ max (fz F U t k) t ≤ t + (B - 1) * U := by
  rw [base_iff hU (by omega), fz_max (by omega) h0, Int.add_mul, Int.sub_mul, Int.one_mul]
  constructor <;> intro h <;> exact ⟨by omega, by omega⟩
theorem wait_zero {cost : Int} (hU : 1 ≤ U) (h1 : 1 ≤ cost) (hc : cost ≤ room F S C D U W B L t) : wait F S C D U W B L t cost = 0 := by
  have hb := (base_iff (F := F) (t := t) (B := B) hU h1).1 (Int.le_trans hc room_base)
  have h2 : (B - cost) * U = B * U - cost * U := Int.sub_mul _ _ _
  have e : max t (F - (B - cost) * U) = t := by omega
  unfold wait
  rw [e, if_neg]
  · omega
  · intro g
    unfold room at hc
    rw [if_pos g.1] at hc
    omega
end
section
variable {F S C D U W B L t : Int} (x1 x2 x3 x4 x5 : Int) (sm : Bool)
theorem box9 (w : World) (c : Array Value) (t : TypeId) : ∃ w1, w.alloc (.cells c t) = w1 ∧ Blk w1 w.heap.size t c ∧ Below w.heap.size w w1 ∧ w1.heap.size = w.heap.size + 1 := box_new w c t
set_option maxHeartbeats 2000000 in
theorem unit_any (h : Ru U W B L) (w : World) : Calls Try.prog 34 #[rvV L W B x1 x2 x3 x4 x5 sm] w fun e w' => e = .returned (.int .i64 U) ∧ Below w.heap.size w w' := by
  obtain ⟨n, hn⟩ : ∃ z, z = L + 1 - B := ⟨_, rfl⟩
  have hn1 : 1 ≤ n ∧ n ≤ 1048577 := by have := h.B; have := h.L; omega
  obtain ⟨h0, h1, h2⟩ := unit_facts h.W.1 hn1.1
  obtain ⟨q, hq⟩ : ∃ z, z = W.tdiv n := ⟨_, rfl⟩
  obtain ⟨p, hp⟩ : ∃ z, z = q * n := ⟨_, rfl⟩
  have hu : U = if p < W then q + 1 else q := by rw [h.u, ← hn]; unfold unit9; rw [← hq, ← hp]
  rw [← hq] at h0 h1 h2
  rw [← hp] at h1
  have hp0 : 0 ≤ p := by rw [hp]; exact Int.mul_nonneg h0 (by omega)
  have e1 : L + 1 - B = n := hn.symm
  have e2 : W.tdiv n = q := hq.symm
  have e3 : q * n = p := hp.symm
  have e4 : ¬ (n = 0) := by omega
  have hW := h.W
  have hL : 1 ≤ L ∧ L ≤ 1048576 := by have := h.B; have := h.L; omega
  have hB : 1 ≤ B ∧ B ≤ 1048576 := by have := h.B; omega
  have HU := Lib.hid hu
  obtain ⟨w1, hw1, k1, b1, s1⟩ := box9 w (rvC L W B x1 x2 x3 x4 x5 sm) 28
  have B1 := Lib.hid b1
  have k1r := k1.rd
  clear hn hq hp hu h k1 b1 s1
  by_cases hlt : p < W
  · have u1 : decide (p < W) = true := by rw [decide_eq_true_iff]; exact hlt
    have HU2 := Lib.hid (show U = q + 1 from by rw [HU.out, if_pos hlt])
    clear hlt
    rw [HU2.out]
    go_enter Try.func34, Try.ntmps34
    go_wp2
    go_ret
    exact ⟨rfl, B1.out⟩
  · have u1 : decide (p < W) = false := by rw [decide_eq_false_iff_not]; exact hlt
    have HU2 := Lib.hid (show U = q from by rw [HU.out, if_neg hlt])
    clear hlt
    rw [HU2.out]
    go_enter Try.func34, Try.ntmps34
    go_wp2
    go_ret
    exact ⟨rfl, B1.out⟩
/-- the reference's cell lies in block b. -/
abbrev CAt (w : World) (b : Nat) (F S C D : Int) : Prop := Blk w b 38 #[.int .i64 F, .int .i64 S, .int .i64 C, .int .i64 D]
set_option maxHeartbeats 4000000 in
theorem one_yes (h : Ru U W B L) (hc : Ce F S C D t) (b : Nat) (w : World) (ha : CAt w b F S C D) (hok : max F t ≤ t + (B - 1) * U) :
    Calls Try.prog 31 #[.pointer (some ⟨b, 0, none⟩), rvV L W B x1 x2 x3 x4 x5 sm, .int .i64 t] w fun e w' => e = .returned (.bool true) ∧ CAt w' b (max F t + U) S C D ∧ Fr (fun k => k = b) w w' := by
  have hub := h.ub
  have hbu := h.bu (k := B - 1) (by have := h.B; omega) (by omega)
  obtain ⟨li, hli⟩ : ∃ z, z = (B - 1) * U := ⟨_, rfl⟩
  obtain ⟨b1, hb1⟩ : ∃ z, z = B - 1 := ⟨_, rfl⟩
  have e1 : IntKind.i64.wrap (B - 1) = b1 := by rw [hb1]; have := h.B; have := h.L; exact IntWalk.i64_in _ (by omega)
  have e2 : IntKind.i64.wrap (b1 * U) = li := by rw [hb1, ← hli]; exact IntWalk.i64_in _ (by omega)
  rw [← hli] at hok hbu
  have hF := hc.F
  have ht := hc.t
  have hl0 : 0 ≤ li ∧ li ≤ 1099512676352 := ⟨hbu.1, hbu.2.1⟩
  have HU := Lib.hid (fun wx => unit_any x1 x2 x3 x4 x5 sm h wx)
  obtain ⟨w1, hw1, k1, b1', s1⟩ := box9 w #[.int .i64 L, .int .i64 W, .int .i64 B, .int .i64 x1, .int .i64 x2, .int .i64 x3, .int .i64 x4, .int .i64 x5, .bool sm] 28
  obtain ⟨rb, hrb⟩ : ∃ z, z = w.heap.size := ⟨_, rfl⟩
  have HRB := Lib.hid hrb
  have HNE := Lib.hid (show rb ≠ b from by have := lt_of_block ha; omega)
  rw [← hrb] at k1
  have KR := Lib.hid k1
  have KC := Lib.hid (ha.keep b1')
  have B1 := Lib.hid b1'
  have HOK := Lib.hid hok
  clear hli hb1 hbu ha k1 b1' s1 hrb h hc hok
  go_enter Try.func31, Try.ntmps31
  go_upto_region 1 with (fail)
  rw [← HRB.out]
  clear hw1
  have KRD := Lib.hid (show Blk w1.drew rb 28 #[.int .i64 L, .int .i64 W, .int .i64 B, .int .i64 x1, .int .i64 x2, .int .i64 x3, .int .i64 x4, .int .i64 x5, .bool sm] from KR.out)
  have KCD := Lib.hid (show CAt w1.drew b F S C D from KC.out)
  have st := KRD.out.rd
  refine wp_region_held_drew (S := fun wx => ∀ j, wx.cell? ⟨rb, j, none⟩ = (#[.int .i64 L, .int .i64 W, .int .i64 B, .int .i64 x1, .int .i64 x2, .int .i64 x3, .int .i64 x4, .int .i64 x5, .bool sm] : Array Value)[j]?) (by kernel_rfl) st (fun hHeld => ?_)
  clear st
  refine wpAnyH_take (i := 0) (oi := ?_) (v := ?_) ?_ ?_ ?_ ?_ ?_ ?_ ?_ ?_
  rotate_left 2
  · simp only [List.getElem?_toArray, List.getElem?_cons_succ, List.getElem?_cons_zero]; rfl
  · kernel_rfl
  · kernel_rfl
  · kernel_rfl
  · exact fun _ _ _ h => h
  · refine Or.inl ⟨by rfl, ?_⟩
    intro w' hSw
    (try dsimp only at hSw)
    go_simp
    all_goals (with_reducible rfl)
  · assumption
  try simp only [Act.put, List.setIfInBounds_toArray, List.set_cons_zero, List.set_cons_succ]
  refine wpAnyH_take (i := 1) (oi := ?_) (v := ?_) ?_ ?_ ?_ ?_ ?_ ?_ ?_ ?_
  rotate_left 2
  · simp only [List.getElem?_toArray, List.getElem?_cons_succ, List.getElem?_cons_zero]; rfl
  · kernel_rfl
  · kernel_rfl
  · kernel_rfl
  · exact fun _ _ _ h => h
  · refine Or.inl ⟨by rfl, ?_⟩
    intro w' hSw
    (try dsimp only at hSw)
    go_simp
    all_goals (with_reducible rfl)
  · assumption
  try simp only [Act.put, List.setIfInBounds_toArray, List.set_cons_zero, List.set_cons_succ]
  refine wpAnyH_take (i := 2) (oi := ?_) (v := ?_) ?_ ?_ ?_ ?_ ?_ ?_ ?_ ?_
  rotate_left 2
  · simp only [List.getElem?_toArray, List.getElem?_cons_succ, List.getElem?_cons_zero]; rfl
  · kernel_rfl
  · kernel_rfl
  · kernel_rfl
  · exact fun _ _ _ h => h
  · refine Or.inl ⟨by rfl, ?_⟩
    intro w' hSw
    (try dsimp only at hSw)
    go_simp
    all_goals (with_reducible rfl)
  · assumption
  try simp only [Act.put, List.setIfInBounds_toArray, List.set_cons_zero, List.set_cons_succ]
  refine wpAnyH_take (i := 3) (oi := ?_) (v := ?_) ?_ ?_ ?_ ?_ ?_ ?_ ?_ ?_
  rotate_left 2
  · simp only [List.getElem?_toArray, List.getElem?_cons_succ, List.getElem?_cons_zero]; rfl
  · kernel_rfl
  · kernel_rfl
  · kernel_rfl
  · exact fun _ _ _ h => h
  · refine Or.inl ⟨by rfl, ?_⟩
    intro w' hSw
    (try dsimp only at hSw)
    go_simp
    all_goals (with_reducible rfl)
  · assumption
  try simp only [Act.put, List.setIfInBounds_toArray, List.set_cons_zero, List.set_cons_succ]
  refine wpAnyH_ready (rs := [4]) (by kernel_rfl) (by simp) ?_
  refine AllReadyH.cons (o := ?_) ?_ ?_ ?_
  rotate_left 1
  · simp only [List.getElem?_toArray, List.getElem?_cons_succ, List.getElem?_cons_zero]; rfl
  rotate_left 1
  · exact AllReadyH.nil
  intro K hK
  go_simp
  refine (HU.out _).mono ?_; rintro e w2 ⟨rfl, b2⟩; have KR2 := Lib.hid (KRD.out.keep b2); have KC2 := Lib.hid (KCD.out.keep b2); have B2 := Lib.hid b2; clear b2
  refine hK.out _ _ KR2.out.rd (fun hHeld => ?_)
  clear hK K
  try simp only [Act.put, List.setIfInBounds_toArray, List.set_cons_zero, List.set_cons_succ]
  refine wpAnyH_take (i := 5) (oi := ?_) (v := ?_) ?_ ?_ ?_ ?_ ?_ ?_ ?_ ?_
  rotate_left 2
  · simp only [List.getElem?_toArray, List.getElem?_cons_succ, List.getElem?_cons_zero]; rfl
  · kernel_rfl
  · kernel_rfl
  · kernel_rfl
  · exact fun _ _ _ h => h
  · refine Or.inl ⟨by rfl, ?_⟩
    intro w' hSw
    (try dsimp only at hSw)
    go_simp
    all_goals (with_reducible rfl)
  · assumption
  try simp only [Act.put, List.setIfInBounds_toArray, List.set_cons_zero, List.set_cons_succ]
  refine wpAnyH_take (i := 6) (oi := ?_) (v := ?_) ?_ ?_ ?_ ?_ ?_ ?_ ?_ ?_
  rotate_left 2
  · simp only [List.getElem?_toArray, List.getElem?_cons_succ, List.getElem?_cons_zero]; rfl
  · kernel_rfl
  · kernel_rfl
  · kernel_rfl
  · exact fun _ _ _ h => h
  · refine Or.inl ⟨by rfl, ?_⟩
    intro w' hSw
    (try dsimp only at hSw)
    go_simp
    all_goals (with_reducible rfl)
  · assumption
  try simp only [Act.put, List.setIfInBounds_toArray, List.set_cons_zero, List.set_cons_succ]
  refine wpAnyH_done (by kernel_rfl) ?_ _
  clear hHeld e1 e2
  have kc2 := KC2.out.rd
  have kr2 := KR2.out.rd
  obtain ⟨at9, hat9⟩ : ∃ z, z = max F t := ⟨_, rfl⟩
  have HAT := Lib.hid hat9
  have hab : 0 ≤ at9 ∧ at9 ≤ 6917529027641081856 := by omega
  have hle : at9 ≤ t + li := by rw [hat9]; exact HOK.out
  by_cases hlt : F < t
  · have u1 : decide (F < t) = true := by rw [decide_eq_true_iff]; exact hlt
    have hae : at9 = t := by omega
    have u2 : decide (t + li < t) = false := by rw [decide_eq_false_iff_not]; omega
    have HAE := Lib.hid hae
    clear hlt hat9 hae
    go_upto_region 7 with (fail)
    rw [← HAE.out]
    clear u1 u2
    have kcw := KC2.out.wr
    go_wp2_with (fail)
    refine (HU.out _).mono ?_
    rintro e w3 ⟨rfl, b3⟩
    have KC3 := Lib.hid (KC2.out.keep b3)
    have B3 := Lib.hid b3
    clear b3 kc2 kr2 kcw
    obtain ⟨w4, hw4, k4, f4, z4⟩ := G.box_set KC3.out 0 (.int .i64 (at9 + U)) #[.int .i64 (at9 + U), .int .i64 S, .int .i64 C, .int .i64 D] rfl
    have HH := Lib.hid (show CAt w4 b (at9 + U) S C D ∧ Fr (fun k => k = b) w w4 from ⟨k4, ((((Fr.of_below B1.out).trans (Fr.refl _ _).drew).trans (Fr.of_below B2.out)).trans (Fr.of_below B3.out)).trans f4⟩)
    clear k4 f4 z4
    have kc3 := KC3.out.rd
    have kcw := KC3.out.wr
    go_wp2
    go_ret
    exact ⟨rfl, by rw [← HAT.out]; exact HH.out.1, HH.out.2⟩
  · have u1 : decide (F < t) = false := by rw [decide_eq_false_iff_not]; exact hlt
    have hae : at9 = F := by omega
    have u2 : decide (t + li < F) = false := by rw [decide_eq_false_iff_not]; omega
    have HAE := Lib.hid hae
    clear hlt hat9 hae
    go_upto_region 7 with (fail)
    clear u1 u2
    have kcw := KC2.out.wr
    go_wp2_with (fail)
    refine (HU.out _).mono ?_
    rintro e w3 ⟨rfl, b3⟩
    have KC3 := Lib.hid (KC2.out.keep b3)
    have B3 := Lib.hid b3
    clear b3 kc2 kr2 kcw
    obtain ⟨w4, hw4, k4, f4, z4⟩ := G.box_set KC3.out 0 (.int .i64 (F + U)) #[.int .i64 (F + U), .int .i64 S, .int .i64 C, .int .i64 D] rfl
    have HH := Lib.hid (show CAt w4 b (at9 + U) S C D ∧ Fr (fun k => k = b) w w4 from ⟨by rw [HAE.out]; exact k4, ((((Fr.of_below B1.out).trans (Fr.refl _ _).drew).trans (Fr.of_below B2.out)).trans (Fr.of_below B3.out)).trans f4⟩)
    clear k4 f4 z4
    have kc3 := KC3.out.rd
    have kcw := KC3.out.wr
    go_wp2
    go_ret
    exact ⟨rfl, by rw [← HAT.out]; exact HH.out.1, HH.out.2⟩
set_option maxHeartbeats 4000000 in
theorem one_no (h : Ru U W B L) (hc : Ce F S C D t) (b : Nat) (w : World) (ha : CAt w b F S C D) (hno : t + (B - 1) * U < max F t) :
    Calls Try.prog 31 #[.pointer (some ⟨b, 0, none⟩), rvV L W B x1 x2 x3 x4 x5 sm, .int .i64 t] w fun e w' => e = .returned (.bool false) ∧ Below w.heap.size w w' := by
  have hub := h.ub
  have hbu := h.bu (k := B - 1) (by have := h.B; omega) (by omega)
  obtain ⟨li, hli⟩ : ∃ z, z = (B - 1) * U := ⟨_, rfl⟩
  obtain ⟨b1, hb1⟩ : ∃ z, z = B - 1 := ⟨_, rfl⟩
  have e1 : IntKind.i64.wrap (B - 1) = b1 := by rw [hb1]; have := h.B; have := h.L; exact IntWalk.i64_in _ (by omega)
  have e2 : IntKind.i64.wrap (b1 * U) = li := by rw [hb1, ← hli]; exact IntWalk.i64_in _ (by omega)
  rw [← hli] at hno hbu
  have hF := hc.F
  have ht := hc.t
  have hl0 : 0 ≤ li ∧ li ≤ 1099512676352 := ⟨hbu.1, hbu.2.1⟩
  have HU := Lib.hid (fun wx => unit_any x1 x2 x3 x4 x5 sm h wx)
  obtain ⟨w1, hw1, k1, b1', s1⟩ := box9 w #[.int .i64 L, .int .i64 W, .int .i64 B, .int .i64 x1, .int .i64 x2, .int .i64 x3, .int .i64 x4, .int .i64 x5, .bool sm] 28
  obtain ⟨rb, hrb⟩ : ∃ z, z = w.heap.size := ⟨_, rfl⟩
  have HRB := Lib.hid hrb
  rw [← hrb] at k1
  have KR := Lib.hid k1
  have KC := Lib.hid (ha.keep b1')
  have B1 := Lib.hid b1'
  have u1 : decide (F < t) = false := by rw [decide_eq_false_iff_not]; omega
  have u2 : decide (t + li < F) = true := by rw [decide_eq_true_iff]; omega
  clear hli hb1 hbu ha k1 b1' s1 hrb h hc hno
  go_enter Try.func31, Try.ntmps31
  go_upto_region 1 with (fail)
  rw [← HRB.out]
  clear hw1
  have KRD := Lib.hid (show Blk w1.drew rb 28 #[.int .i64 L, .int .i64 W, .int .i64 B, .int .i64 x1, .int .i64 x2, .int .i64 x3, .int .i64 x4, .int .i64 x5, .bool sm] from KR.out)
  have KCD := Lib.hid (show CAt w1.drew b F S C D from KC.out)
  have st := KRD.out.rd
  refine wp_region_held_drew (S := fun wx => ∀ j, wx.cell? ⟨rb, j, none⟩ = (#[.int .i64 L, .int .i64 W, .int .i64 B, .int .i64 x1, .int .i64 x2, .int .i64 x3, .int .i64 x4, .int .i64 x5, .bool sm] : Array Value)[j]?) (by kernel_rfl) st (fun hHeld => ?_)
  clear st
  refine wpAnyH_take (i := 0) (oi := ?_) (v := ?_) ?_ ?_ ?_ ?_ ?_ ?_ ?_ ?_
  rotate_left 2
  · simp only [List.getElem?_toArray, List.getElem?_cons_succ, List.getElem?_cons_zero]; rfl
  · kernel_rfl
  · kernel_rfl
  · kernel_rfl
  · exact fun _ _ _ h => h
  · refine Or.inl ⟨by rfl, ?_⟩
    intro w' hSw
    (try dsimp only at hSw)
    go_simp
    all_goals (with_reducible rfl)
  · assumption
  try simp only [Act.put, List.setIfInBounds_toArray, List.set_cons_zero, List.set_cons_succ]
  refine wpAnyH_take (i := 1) (oi := ?_) (v := ?_) ?_ ?_ ?_ ?_ ?_ ?_ ?_ ?_
  rotate_left 2
  · simp only [List.getElem?_toArray, List.getElem?_cons_succ, List.getElem?_cons_zero]; rfl
  · kernel_rfl
  · kernel_rfl
  · kernel_rfl
  · exact fun _ _ _ h => h
  · refine Or.inl ⟨by rfl, ?_⟩
    intro w' hSw
    (try dsimp only at hSw)
    go_simp
    all_goals (with_reducible rfl)
  · assumption
  try simp only [Act.put, List.setIfInBounds_toArray, List.set_cons_zero, List.set_cons_succ]
  refine wpAnyH_take (i := 2) (oi := ?_) (v := ?_) ?_ ?_ ?_ ?_ ?_ ?_ ?_ ?_
  rotate_left 2
  · simp only [List.getElem?_toArray, List.getElem?_cons_succ, List.getElem?_cons_zero]; rfl
  · kernel_rfl
  · kernel_rfl
  · kernel_rfl
  · exact fun _ _ _ h => h
  · refine Or.inl ⟨by rfl, ?_⟩
    intro w' hSw
    (try dsimp only at hSw)
    go_simp
    all_goals (with_reducible rfl)
  · assumption
  try simp only [Act.put, List.setIfInBounds_toArray, List.set_cons_zero, List.set_cons_succ]
  refine wpAnyH_take (i := 3) (oi := ?_) (v := ?_) ?_ ?_ ?_ ?_ ?_ ?_ ?_ ?_
  rotate_left 2
  · simp only [List.getElem?_toArray, List.getElem?_cons_succ, List.getElem?_cons_zero]; rfl
  · kernel_rfl
  · kernel_rfl
  · kernel_rfl
  · exact fun _ _ _ h => h
  · refine Or.inl ⟨by rfl, ?_⟩
    intro w' hSw
    (try dsimp only at hSw)
    go_simp
    all_goals (with_reducible rfl)
  · assumption
  try simp only [Act.put, List.setIfInBounds_toArray, List.set_cons_zero, List.set_cons_succ]
  refine wpAnyH_ready (rs := [4]) (by kernel_rfl) (by simp) ?_
  refine AllReadyH.cons (o := ?_) ?_ ?_ ?_
  rotate_left 1
  · simp only [List.getElem?_toArray, List.getElem?_cons_succ, List.getElem?_cons_zero]; rfl
  rotate_left 1
  · exact AllReadyH.nil
  intro K hK
  go_simp
  refine (HU.out _).mono ?_; rintro e w2 ⟨rfl, b2⟩; have KR2 := Lib.hid (KRD.out.keep b2); have KC2 := Lib.hid (KCD.out.keep b2); have B2 := Lib.hid b2; clear b2
  refine hK.out _ _ KR2.out.rd (fun hHeld => ?_)
  clear hK K
  try simp only [Act.put, List.setIfInBounds_toArray, List.set_cons_zero, List.set_cons_succ]
  refine wpAnyH_take (i := 5) (oi := ?_) (v := ?_) ?_ ?_ ?_ ?_ ?_ ?_ ?_ ?_
  rotate_left 2
  · simp only [List.getElem?_toArray, List.getElem?_cons_succ, List.getElem?_cons_zero]; rfl
  · kernel_rfl
  · kernel_rfl
  · kernel_rfl
  · exact fun _ _ _ h => h
  · refine Or.inl ⟨by rfl, ?_⟩
    intro w' hSw
    (try dsimp only at hSw)
    go_simp
    all_goals (with_reducible rfl)
  · assumption
  try simp only [Act.put, List.setIfInBounds_toArray, List.set_cons_zero, List.set_cons_succ]
  refine wpAnyH_take (i := 6) (oi := ?_) (v := ?_) ?_ ?_ ?_ ?_ ?_ ?_ ?_ ?_
  rotate_left 2
  · simp only [List.getElem?_toArray, List.getElem?_cons_succ, List.getElem?_cons_zero]; rfl
  · kernel_rfl
  · kernel_rfl
  · kernel_rfl
  · exact fun _ _ _ h => h
  · refine Or.inl ⟨by rfl, ?_⟩
    intro w' hSw
    (try dsimp only at hSw)
    go_simp
    all_goals (with_reducible rfl)
  · assumption
  try simp only [Act.put, List.setIfInBounds_toArray, List.set_cons_zero, List.set_cons_succ]
  refine wpAnyH_done (by kernel_rfl) ?_ _
  clear hHeld e1 e2
  have kc2 := KC2.out.rd
  go_wp2
  go_ret
  exact ⟨rfl, G.below_on B1.out (G.below_on (below_draws (Below.refl _ _) 1) B2.out)⟩
end
end Go.Proofs.Ytfegoehiopkcnaa.R9
