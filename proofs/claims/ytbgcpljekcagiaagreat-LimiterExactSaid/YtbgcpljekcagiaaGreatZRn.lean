import Derived.Test.YtbgcpljekcagiaaGreatRows
import Derived.Test.YtbgcpljekcagiaaGreatGen
import Derived.Test.YtbgcpljekcagiaaGreatZPhase
import Derived.WalkKit
import Derived.ProofKit
import Derived.OpenShut
import Derived.Deep.RegionHeld3
import Derived.BigQuiet
import Derived.Deep.CutRange
import Derived.IntWalk
/- The reference's cell (weighbridgeref09): plain mathematics; Unit, one. -/
namespace Go.Proofs.YtbgcpljekcagiaaGreat.R9
set_option linter.unusedSimpArgs false
set_option linter.unusedVariables false
set_option maxRecDepth 100000
open Go Go.ChangeShapes Go.WideShapes Go.ChangeAt Go.RowKit
/-- a unit: the least time by which no more than the limit fits. -/
def unit9 (W n : Int) : Int := if W.tdiv n * n < W then W.tdiv n + 1 else W.tdiv n
abbrev rvV (L W B x1 x2 x3 x4 x5 : Int) (sm : Bool) : Value := .agg #[.int .i64 L, .int .i64 W, .int .i64 B, .int .i64 x1, .int .i64 x2, .int .i64 x3, .int .i64 x4, .int .i64 x5, .bool sm]
abbrev rvC (L W B x1 x2 x3 x4 x5 : Int) (sm : Bool) : Array Value := #[.int .i64 L, .int .i64 W, .int .i64 B, .int .i64 x1, .int .i64 x2, .int .i64 x3, .int .i64 x4, .int .i64 x5, .bool sm]
abbrev cvV (F S C D : Int) : Value := .agg #[.int .i64 F, .int .i64 S, .int .i64 C, .int .i64 D]
abbrev cvC (F S C D : Int) : Array Value := #[.int .i64 F, .int .i64 S, .int .i64 C, .int .i64 D]
/-- how much conforms, the carry aside. -/
def base (F U B t : Int) : Int := max 0 (min ((t + B * U - max F t).tdiv U) B)
def rest (C D L : Int) : Int := max 0 (L - (C + D))
def room (F S C D U W B L t : Int) : Int := if t < S + W then min (base F U B t) (rest C D L) else base F U B t
def wait (F S C D U W B L t cost : Int) : Int := (if max t (F - (B - cost) * U) < S + W ∧ rest C D L < cost then S + W else max t (F - (B - cost) * U)) - t
/-- a rule's numbers. -/
structure Ru (U W B L : Int) : Prop where
  u : U = unit9 W (L + 1 - B)
  W : 1 ≤ W ∧ W ≤ 1048576
  B : 1 ≤ B ∧ B ≤ L
  L : L ≤ 1048576
/-- a cell's. -/
structure Ce (F S C D t : Int) : Prop where
  F : 0 ≤ F ∧ F ≤ 6917529027641081856
  S : -1048576 ≤ S ∧ S ≤ 4611686018427387904
  C : 0 ≤ C ∧ C ≤ 4611686018427387904
  D : 0 ≤ D ∧ D ≤ 1152921504606846976
  t : 0 ≤ t ∧ t ≤ 4611686018427387904
section
variable {F S C D U W B L t : Int}
theorem unit_facts {n : Int} (hW : 1 ≤ W) (hn : 1 ≤ n) : 0 ≤ W.tdiv n ∧ W.tdiv n * n ≤ W ∧ W.tdiv n ≤ W := by
  have h0 : 0 ≤ W.tdiv n := Int.tdiv_nonneg (by omega) (by omega)
  have h1 : W.tdiv n * n ≤ W := by
    rw [Int.tdiv_eq_ediv_of_nonneg (by omega)]
    exact Int.ediv_mul_le W (by omega)
  have h2 : W.tdiv n * 1 ≤ W.tdiv n * n := Int.mul_le_mul_of_nonneg_left hn h0
  exact ⟨h0, h1, by omega⟩
theorem Ru.ub (h : Ru U W B L) : 1 ≤ U ∧ U ≤ 1048577 := by
  have hn : 1 ≤ L + 1 - B := by have := h.B; omega
  obtain ⟨h0, h1, h2⟩ := unit_facts h.W.1 hn
  have hW := h.W
  rw [h.u]
  unfold unit9
  split
  · omega
  · rename_i q
    have : W.tdiv (L + 1 - B) ≠ 0 := fun e => by rw [e, Int.zero_mul] at q; omega
    omega
theorem Ru.bu (h : Ru U W B L) {k : Int} (h0 : 0 ≤ k) (hk : k ≤ B) : 0 ≤ k * U ∧ k * U ≤ 1099512676352 ∧ k * U ≤ B * U := by
  have hu := h.ub
  have hB := h.B
  have hL := h.L
  have h1 : 0 ≤ k * U := Int.mul_nonneg h0 (by omega)
  have h2 : k * U ≤ B * U := Int.mul_le_mul_of_nonneg_right hk (by omega)
  have h3 : B * U ≤ 1048576 * 1048577 := Int.mul_le_mul (by omega) hu.2 (by omega) (by omega)
  exact ⟨h1, by omega, h2⟩
theorem le_td {k x : Int} (hU : 1 ≤ U) (hk : 1 ≤ k) : k ≤ x.tdiv U ↔ k * U ≤ x := by
  rcases Int.lt_or_le x 0 with hx | hx
  · have h1 : x.tdiv U ≤ 0 := by
      have : 0 ≤ (-x).tdiv U := Int.tdiv_nonneg (by omega) (by omega)
      rw [Int.neg_tdiv] at this
      omega
    have h2 : 0 ≤ k * U := Int.mul_nonneg (by omega) (by omega)
    constructor <;> intro h <;> omega
  · rw [Int.tdiv_eq_ediv_of_nonneg hx]
    exact Int.le_ediv_iff_mul_le (by omega)
theorem base_iff {k : Int} (hU : 1 ≤ U) (hk : 1 ≤ k) : k ≤ base F U B t ↔ k ≤ B ∧ k * U + max F t ≤ t + B * U := by
  have h := le_td (x := t + B * U - max F t) hU hk
  unfold base
  generalize (t + B * U - max F t).tdiv U = q at *
  generalize k * U = ku at *
  generalize B * U = bu at *
  constructor
  · intro g; have : k ≤ q := by omega
    have := h.1 this; omega
  · intro g; have : k ≤ q := h.2 (by omega)
    omega
theorem base_lo : 0 ≤ base F U B t := by unfold base; omega
theorem base_hi (hB : 0 ≤ B) : base F U B t ≤ B := by unfold base; omega
theorem room_base : room F S C D U W B L t ≤ base F U B t := by unfold room; split <;> omega
/-- where a cell is behind so many units. -/
def fz (F U t k : Int) : Int := if k = 0 then F else max F t + k * U
theorem fz_zero : fz F U t 0 = F := if_pos rfl
theorem fz_max {k : Int} (hU : 0 ≤ U) (h0 : 0 ≤ k) : max (fz F U t k) t = max F t + k * U := by
  unfold fz
  have := Int.mul_nonneg h0 hU
  split
  · rename_i e; rw [e, Int.zero_mul]; omega
  · omega
/-- one more unit conforms just so long. -/
theorem one_iff {k : Int} (hU : 1 ≤ U) (h0 : 0 ≤ k) : k + 1 ≤ base F U B t ↔ k < B ∧ max (fz F U t k) t ≤ t + (B - 1) * U := by
  rw [base_iff hU (by omega), fz_max (by omega) h0, Int.add_mul, Int.sub_mul, Int.one_mul]
  constructor <;> intro h <;> exact ⟨by omega, by omega⟩
theorem wait_zero {cost : Int} (hU : 1 ≤ U) (h1 : 1 ≤ cost) (hc : cost ≤ room F S C D U W B L t) : wait F S C D U W B L t cost = 0 := by
  have hb := (base_iff (F := F) (t := t) (B := B) hU h1).1 (Int.le_trans hc room_base)
  have h2 : (B - cost) * U = B * U - cost * U := Int.sub_mul _ _ _
  have e : max t (F - (B - cost) * U) = t := by omega
  unfold wait
  rw [e, if_neg]
  · omega
  · intro g
    unfold room at hc
    rw [if_pos g.1] at hc
    omega
end
section
variable {F S C D U W B L t : Int} (x1 x2 x3 x4 x5 : Int) (sm : Bool)
theorem box9 (w : World) (c : Array Value) (t : TypeId) : ∃ w1, w.alloc (.cells c t) = w1 ∧ Blk w1 w.heap.size t c ∧ Below w.heap.size w w1 ∧ w1.heap.size = w.heap.size + 1 := box_new w c t
set_option maxHeartbeats 2000000 in
theorem unit_any (h : Ru U W B L) (w : World) : Calls Tryz.prog 67 #[rvV L W B x1 x2 x3 x4 x5 sm] w fun e w' => e = .returned (.int .i64 U) ∧ Below w.heap.size w w' := by
  obtain ⟨n, hn⟩ : ∃ z, z = L + 1 - B := ⟨_, rfl⟩
  have hn1 : 1 ≤ n ∧ n ≤ 1048577 := by have := h.B; have := h.L; omega
  obtain ⟨h0, h1, h2⟩ := unit_facts h.W.1 hn1.1
  obtain ⟨q, hq⟩ : ∃ z, z = W.tdiv n := ⟨_, rfl⟩
  obtain ⟨p, hp⟩ : ∃ z, z = q * n := ⟨_, rfl⟩
  have hu : U = if p < W then q + 1 else q := by rw [h.u, ← hn]; unfold unit9; rw [← hq, ← hp]
  rw [← hq] at h0 h1 h2
  rw [← hp] at h1
  have hp0 : 0 ≤ p := by rw [hp]; exact Int.mul_nonneg h0 (by omega)
  have e1 : L + 1 - B = n := hn.symm
  have e2 : W.tdiv n = q := hq.symm
  have e3 : q * n = p := hp.symm
  have e4 : ¬ (n = 0) := by omega
  have hW := h.W
  have hL : 1 ≤ L ∧ L ≤ 1048576 := by have := h.B; have := h.L; omega
  have hB : 1 ≤ B ∧ B ≤ 1048576 := by have := h.B; omega
  have HU := Lib.hid hu
  obtain ⟨w1, hw1, k1, b1, s1⟩ := box9 w (rvC L W B x1 x2 x3 x4 x5 sm) 29
  have B1 := Lib.hid b1
  have k1r := k1.rd
  clear hn hq hp hu h k1 b1 s1
  by_cases hlt : p < W
  · have u1 : decide (p < W) = true := by rw [decide_eq_true_iff]; exact hlt
    have HU2 := Lib.hid (show U = q + 1 from by rw [HU.out, if_pos hlt])
    clear hlt
    rw [HU2.out]
    go_enter Tryz.func67, Tryz.ntmps67
    go_wp2
    go_ret
    exact ⟨rfl, B1.out⟩
  · have u1 : decide (p < W) = false := by rw [decide_eq_false_iff_not]; exact hlt
    have HU2 := Lib.hid (show U = q from by rw [HU.out, if_neg hlt])
    clear hlt
    rw [HU2.out]
    go_enter Tryz.func67, Tryz.ntmps67
    go_wp2
    go_ret
    exact ⟨rfl, B1.out⟩
/-- the reference's cell lies in block b. -/
abbrev CAt (w : World) (b : Nat) (F S C D : Int) : Prop := Blk w b 61 #[.int .i64 F, .int .i64 S, .int .i64 C, .int .i64 D]
set_option maxHeartbeats 4000000 in
theorem one_yes (h : Ru U W B L) (hc : Ce F S C D t) (b : Nat) (w : World) (ha : CAt w b F S C D) (hok : max F t ≤ t + (B - 1) * U) :
    Calls Tryz.prog 65 #[.pointer (some ⟨b, 0, none⟩), rvV L W B x1 x2 x3 x4 x5 sm, .int .i64 t] w fun e w' => e = .returned (.bool true) ∧ CAt w' b (max F t + U) S C D ∧ Fr (fun k => k = b) w w' := by
  have hub := h.ub
  have hbu := h.bu (k := B - 1) (by have := h.B; omega) (by omega)
  obtain ⟨li, hli⟩ : ∃ z, z = (B - 1) * U := ⟨_, rfl⟩
  obtain ⟨b1, hb1⟩ : ∃ z, z = B - 1 := ⟨_, rfl⟩
  have e1 : IntKind.i64.wrap (B - 1) = b1 := by rw [hb1]; have := h.B; have := h.L; exact IntWalk.i64_in _ (by omega)
  have e2 : IntKind.i64.wrap (b1 * U) = li := by rw [hb1, ← hli]; exact IntWalk.i64_in _ (by omega)
  rw [← hli] at hok hbu
  have hF := hc.F
  have ht := hc.t
  have hl0 : 0 ≤ li ∧ li ≤ 1099512676352 := ⟨hbu.1, hbu.2.1⟩
  have HU := Lib.hid (fun wx => unit_any x1 x2 x3 x4 x5 sm h wx)
  obtain ⟨w1, hw1, k1, b1', s1⟩ := box9 w #[.int .i64 L, .int .i64 W, .int .i64 B, .int .i64 x1, .int .i64 x2, .int .i64 x3, .int .i64 x4, .int .i64 x5, .bool sm] 29
  obtain ⟨rb, hrb⟩ : ∃ z, z = w.heap.size := ⟨_, rfl⟩
  have HRB := Lib.hid hrb
  have HNE := Lib.hid (show rb ≠ b from by have := lt_of_block ha; omega)
  rw [← hrb] at k1
  have KR := Lib.hid k1
  have KC := Lib.hid (ha.keep b1')
  have B1 := Lib.hid b1'
  have HOK := Lib.hid hok
  clear hli hb1 hbu ha k1 b1' s1 hrb h hc hok
  go_enter Tryz.func65, Tryz.ntmps65
  go_upto_region 1 with (fail)
  rw [← HRB.out]
  clear hw1
  have KRD := Lib.hid (show Blk w1.drew rb 29 #[.int .i64 L, .int .i64 W, .int .i64 B, .int .i64 x1, .int .i64 x2, .int .i64 x3, .int .i64 x4, .int .i64 x5, .bool sm] from KR.out)
  have KCD := Lib.hid (show CAt w1.drew b F S C D from KC.out)
  have st := KRD.out.rd
  refine wp_region_held_drew (S := fun wx => ∀ j, wx.cell? ⟨rb, j, none⟩ = (#[.int .i64 L, .int .i64 W, .int .i64 B, .int .i64 x1, .int .i64 x2, .int .i64 x3, .int .i64 x4, .int .i64 x5, .bool sm] : Array Value)[j]?) (by kernel_rfl) st (fun hHeld => ?_)
  clear st
  refine wpAnyH_take (i := 0) (oi := ?_) (v := ?_) ?_ ?_ ?_ ?_ ?_ ?_ ?_ ?_
  rotate_left 2
  · simp only [List.getElem?_toArray, List.getElem?_cons_succ, List.getElem?_cons_zero]; rfl
  · kernel_rfl
  · kernel_rfl
  · kernel_rfl
  · exact fun _ _ _ h => h
  · refine Or.inl ⟨by rfl, ?_⟩
    intro w' hSw
    (try dsimp only at hSw)
    go_simp
    all_goals (with_reducible rfl)
  · assumption
  try simp only [Act.put, List.setIfInBounds_toArray, List.set_cons_zero, List.set_cons_succ]
  refine wpAnyH_take (i := 1) (oi := ?_) (v := ?_) ?_ ?_ ?_ ?_ ?_ ?_ ?_ ?_
  rotate_left 2
  · simp only [List.getElem?_toArray, List.getElem?_cons_succ, List.getElem?_cons_zero]; rfl
  · kernel_rfl
  · kernel_rfl
  · kernel_rfl
  · exact fun _ _ _ h => h
  · refine Or.inl ⟨by rfl, ?_⟩
    intro w' hSw
    (try dsimp only at hSw)
    go_simp
    all_goals (with_reducible rfl)
  · assumption
  try simp only [Act.put, List.setIfInBounds_toArray, List.set_cons_zero, List.set_cons_succ]
  refine wpAnyH_take (i := 2) (oi := ?_) (v := ?_) ?_ ?_ ?_ ?_ ?_ ?_ ?_ ?_
  rotate_left 2
  · simp only [List.getElem?_toArray, List.getElem?_cons_succ, List.getElem?_cons_zero]; rfl
  · kernel_rfl
  · kernel_rfl
  · kernel_rfl
  · exact fun _ _ _ h => h
  · refine Or.inl ⟨by rfl, ?_⟩
    intro w' hSw
    (try dsimp only at hSw)
    go_simp
    all_goals (with_reducible rfl)
  · assumption
  try simp only [Act.put, List.setIfInBounds_toArray, List.set_cons_zero, List.set_cons_succ]
  refine wpAnyH_take (i := 3) (oi := ?_) (v := ?_) ?_ ?_ ?_ ?_ ?_ ?_ ?_ ?_
  rotate_left 2
  · simp only [List.getElem?_toArray, List.getElem?_cons_succ, List.getElem?_cons_zero]; rfl
  · kernel_rfl
  · kernel_rfl
  · kernel_rfl
  · exact fun _ _ _ h => h
  · refine Or.inl ⟨by rfl, ?_⟩
    intro w' hSw
    (try dsimp only at hSw)
    go_simp
    all_goals (with_reducible rfl)
  · assumption
  try simp only [Act.put, List.setIfInBounds_toArray, List.set_cons_zero, List.set_cons_succ]
  refine wpAnyH_ready (rs := [4]) (by kernel_rfl) (by simp) ?_
  refine AllReadyH.cons (o := ?_) ?_ ?_ ?_
  rotate_left 1
  · simp only [List.getElem?_toArray, List.getElem?_cons_succ, List.getElem?_cons_zero]; rfl
  rotate_left 1
  · exact AllReadyH.nil
  intro K hK
  go_simp
  refine (HU.out _).mono ?_; rintro e w2 ⟨rfl, b2⟩; have KR2 := Lib.hid (KRD.out.keep b2); have KC2 := Lib.hid (KCD.out.keep b2); have B2 := Lib.hid b2; clear b2
  refine hK.out _ _ KR2.out.rd (fun hHeld => ?_)
  clear hK K
  try simp only [Act.put, List.setIfInBounds_toArray, List.set_cons_zero, List.set_cons_succ]
  refine wpAnyH_take (i := 5) (oi := ?_) (v := ?_) ?_ ?_ ?_ ?_ ?_ ?_ ?_ ?_
  rotate_left 2
  · simp only [List.getElem?_toArray, List.getElem?_cons_succ, List.getElem?_cons_zero]; rfl
  · kernel_rfl
  · kernel_rfl
  · kernel_rfl
  · exact fun _ _ _ h => h
  · refine Or.inl ⟨by rfl, ?_⟩
    intro w' hSw
    (try dsimp only at hSw)
    go_simp
    all_goals (with_reducible rfl)
  · assumption
  try simp only [Act.put, List.setIfInBounds_toArray, List.set_cons_zero, List.set_cons_succ]
  refine wpAnyH_take (i := 6) (oi := ?_) (v := ?_) ?_ ?_ ?_ ?_ ?_ ?_ ?_ ?_
  rotate_left 2
  · simp only [List.getElem?_toArray, List.getElem?_cons_succ, List.getElem?_cons_zero]; rfl
  · kernel_rfl
  · kernel_rfl
  · kernel_rfl
  · exact fun _ _ _ h => h
  · refine Or.inl ⟨by rfl, ?_⟩
    intro w' hSw
    (try dsimp only at hSw)
    go_simp
    all_goals (with_reducible rfl)
  · assumption
  try simp only [Act.put, List.setIfInBounds_toArray, List.set_cons_zero, List.set_cons_succ]
  refine wpAnyH_done (by kernel_rfl) ?_ _
  clear hHeld e1 e2
  have kc2 := KC2.out.rd
  have kr2 := KR2.out.rd
  obtain ⟨at9, hat9⟩ : ∃ z, z = max F t := ⟨_, rfl⟩
  have HAT := Lib.hid hat9
  have hab : 0 ≤ at9 ∧ at9 ≤ 6917529027641081856 := by omega
  have hle : at9 ≤ t + li := by rw [hat9]; exact HOK.out
  by_cases hlt : F < t
  · have u1 : decide (F < t) = true := by rw [decide_eq_true_iff]; exact hlt
    have hae : at9 = t := by omega
    have u2 : decide (t + li < t) = false := by rw [decide_eq_false_iff_not]; omega
    have HAE := Lib.hid hae
    clear hlt hat9 hae
    go_upto_region 7 with (fail)
    rw [← HAE.out]
    clear u1 u2
    have kcw := KC2.out.wr
    go_wp2_with (fail)
    refine (HU.out _).mono ?_
    rintro e w3 ⟨rfl, b3⟩
    have KC3 := Lib.hid (KC2.out.keep b3)
    have B3 := Lib.hid b3
    clear b3 kc2 kr2 kcw
    obtain ⟨w4, hw4, k4, f4, z4⟩ := G.box_set KC3.out 0 (.int .i64 (at9 + U)) #[.int .i64 (at9 + U), .int .i64 S, .int .i64 C, .int .i64 D] rfl
    have HH := Lib.hid (show CAt w4 b (at9 + U) S C D ∧ Fr (fun k => k = b) w w4 from ⟨k4, ((((Fr.of_below B1.out).trans (Fr.refl _ _).drew).trans (Fr.of_below B2.out)).trans (Fr.of_below B3.out)).trans f4⟩)
    clear k4 f4 z4
    have kc3 := KC3.out.rd
    have kcw := KC3.out.wr
    go_wp2
    go_ret
    exact ⟨rfl, by rw [← HAT.out]; exact HH.out.1, HH.out.2⟩
  · have u1 : decide (F < t) = false := by rw [decide_eq_false_iff_not]; exact hlt
    have hae : at9 = F := by omega
    have u2 : decide (t + li < F) = false := by rw [decide_eq_false_iff_not]; omega
    have HAE := Lib.hid hae
    clear hlt hat9 hae
    go_upto_region 7 with (fail)
    clear u1 u2
    have kcw := KC2.out.wr
    go_wp2_with (fail)
    refine (HU.out _).mono ?_
    rintro e w3 ⟨rfl, b3⟩
    have KC3 := Lib.hid (KC2.out.keep b3)
    have B3 := Lib.hid b3
    clear b3 kc2 kr2 kcw
    obtain ⟨w4, hw4, k4, f4, z4⟩ := G.box_set KC3.out 0 (.int .i64 (F + U)) #[.int .i64 (F + U), .int .i64 S, .int .i64 C, .int .i64 D] rfl
    have HH := Lib.hid (show CAt w4 b (at9 + U) S C D ∧ Fr (fun k => k = b) w w4 from ⟨by rw [HAE.out]; exact k4, ((((Fr.of_below B1.out).trans (Fr.refl _ _).drew).trans (Fr.of_below B2.out)).trans (Fr.of_below B3.out)).trans f4⟩)
    clear k4 f4 z4
    have kc3 := KC3.out.rd
    have kcw := KC3.out.wr
    go_wp2
    go_ret
    exact ⟨rfl, by rw [← HAT.out]; exact HH.out.1, HH.out.2⟩
set_option maxHeartbeats 4000000 in
theorem one_no (h : Ru U W B L) (hc : Ce F S C D t) (b : Nat) (w : World) (ha : CAt w b F S C D) (hno : t + (B - 1) * U < max F t) :
    Calls Tryz.prog 65 #[.pointer (some ⟨b, 0, none⟩), rvV L W B x1 x2 x3 x4 x5 sm, .int .i64 t] w fun e w' => e = .returned (.bool false) ∧ Below w.heap.size w w' := by
  have hub := h.ub
  have hbu := h.bu (k := B - 1) (by have := h.B; omega) (by omega)
  obtain ⟨li, hli⟩ : ∃ z, z = (B - 1) * U := ⟨_, rfl⟩
  obtain ⟨b1, hb1⟩ : ∃ z, z = B - 1 := ⟨_, rfl⟩
  have e1 : IntKind.i64.wrap (B - 1) = b1 := by rw [hb1]; have := h.B; have := h.L; exact IntWalk.i64_in _ (by omega)
  have e2 : IntKind.i64.wrap (b1 * U) = li := by rw [hb1, ← hli]; exact IntWalk.i64_in _ (by omega)
  rw [← hli] at hno hbu
  have hF := hc.F
  have ht := hc.t
  have hl0 : 0 ≤ li ∧ li ≤ 1099512676352 := ⟨hbu.1, hbu.2.1⟩
  have HU := Lib.hid (fun wx => unit_any x1 x2 x3 x4 x5 sm h wx)
  obtain ⟨w1, hw1, k1, b1', s1⟩ := box9 w #[.int .i64 L, .int .i64 W, .int .i64 B, .int .i64 x1, .int .i64 x2, .int .i64 x3, .int .i64 x4, .int .i64 x5, .bool sm] 29
  obtain ⟨rb, hrb⟩ : ∃ z, z = w.heap.size := ⟨_, rfl⟩
  have HRB := Lib.hid hrb
  rw [← hrb] at k1
  have KR := Lib.hid k1
  have KC := Lib.hid (ha.keep b1')
  have B1 := Lib.hid b1'
  have u1 : decide (F < t) = false := by rw [decide_eq_false_iff_not]; omega
  have u2 : decide (t + li < F) = true := by rw [decide_eq_true_iff]; omega
  clear hli hb1 hbu ha k1 b1' s1 hrb h hc hno
  go_enter Tryz.func65, Tryz.ntmps65
  go_upto_region 1 with (fail)
  rw [← HRB.out]
  clear hw1
  have KRD := Lib.hid (show Blk w1.drew rb 29 #[.int .i64 L, .int .i64 W, .int .i64 B, .int .i64 x1, .int .i64 x2, .int .i64 x3, .int .i64 x4, .int .i64 x5, .bool sm] from KR.out)
  have KCD := Lib.hid (show CAt w1.drew b F S C D from KC.out)
  have st := KRD.out.rd
  refine wp_region_held_drew (S := fun wx => ∀ j, wx.cell? ⟨rb, j, none⟩ = (#[.int .i64 L, .int .i64 W, .int .i64 B, .int .i64 x1, .int .i64 x2, .int .i64 x3, .int .i64 x4, .int .i64 x5, .bool sm] : Array Value)[j]?) (by kernel_rfl) st (fun hHeld => ?_)
  clear st
  refine wpAnyH_take (i := 0) (oi := ?_) (v := ?_) ?_ ?_ ?_ ?_ ?_ ?_ ?_ ?_
  rotate_left 2
  · simp only [List.getElem?_toArray, List.getElem?_cons_succ, List.getElem?_cons_zero]; rfl
  · kernel_rfl
  · kernel_rfl
  · kernel_rfl
  · exact fun _ _ _ h => h
  · refine Or.inl ⟨by rfl, ?_⟩
    intro w' hSw
    (try dsimp only at hSw)
    go_simp
    all_goals (with_reducible rfl)
  · assumption
  try simp only [Act.put, List.setIfInBounds_toArray, List.set_cons_zero, List.set_cons_succ]
  refine wpAnyH_take (i := 1) (oi := ?_) (v := ?_) ?_ ?_ ?_ ?_ ?_ ?_ ?_ ?_
  rotate_left 2
  · simp only [List.getElem?_toArray, List.getElem?_cons_succ, List.getElem?_cons_zero]; rfl
  · kernel_rfl
  · kernel_rfl
  · kernel_rfl
  · exact fun _ _ _ h => h
  · refine Or.inl ⟨by rfl, ?_⟩
    intro w' hSw
    (try dsimp only at hSw)
    go_simp
    all_goals (with_reducible rfl)
  · assumption
  try simp only [Act.put, List.setIfInBounds_toArray, List.set_cons_zero, List.set_cons_succ]
  refine wpAnyH_take (i := 2) (oi := ?_) (v := ?_) ?_ ?_ ?_ ?_ ?_ ?_ ?_ ?_
  rotate_left 2
  · simp only [List.getElem?_toArray, List.getElem?_cons_succ, List.getElem?_cons_zero]; rfl
  · kernel_rfl
  · kernel_rfl
  · kernel_rfl
  · exact fun _ _ _ h => h
  · refine Or.inl ⟨by rfl, ?_⟩
    intro w' hSw
    (try dsimp only at hSw)
    go_simp
    all_goals (with_reducible rfl)
  · assumption
  try simp only [Act.put, List.setIfInBounds_toArray, List.set_cons_zero, List.set_cons_succ]
  refine wpAnyH_take (i := 3) (oi := ?_) (v := ?_) ?_ ?_ ?_ ?_ ?_ ?_ ?_ ?_
  rotate_left 2
  · simp only [List.getElem?_toArray, List.getElem?_cons_succ, List.getElem?_cons_zero]; rfl
  · kernel_rfl
  · kernel_rfl
  · kernel_rfl
  · exact fun _ _ _ h => h
  · refine Or.inl ⟨by rfl, ?_⟩
    intro w' hSw
    (try dsimp only at hSw)
    go_simp
    all_goals (with_reducible rfl)
  · assumption
  try simp only [Act.put, List.setIfInBounds_toArray, List.set_cons_zero, List.set_cons_succ]
  refine wpAnyH_ready (rs := [4]) (by kernel_rfl) (by simp) ?_
  refine AllReadyH.cons (o := ?_) ?_ ?_ ?_
  rotate_left 1
  · simp only [List.getElem?_toArray, List.getElem?_cons_succ, List.getElem?_cons_zero]; rfl
  rotate_left 1
  · exact AllReadyH.nil
  intro K hK
  go_simp
  refine (HU.out _).mono ?_; rintro e w2 ⟨rfl, b2⟩; have KR2 := Lib.hid (KRD.out.keep b2); have KC2 := Lib.hid (KCD.out.keep b2); have B2 := Lib.hid b2; clear b2
  refine hK.out _ _ KR2.out.rd (fun hHeld => ?_)
  clear hK K
  try simp only [Act.put, List.setIfInBounds_toArray, List.set_cons_zero, List.set_cons_succ]
  refine wpAnyH_take (i := 5) (oi := ?_) (v := ?_) ?_ ?_ ?_ ?_ ?_ ?_ ?_ ?_
  rotate_left 2
  · simp only [List.getElem?_toArray, List.getElem?_cons_succ, List.getElem?_cons_zero]; rfl
  · kernel_rfl
  · kernel_rfl
  · kernel_rfl
  · exact fun _ _ _ h => h
  · refine Or.inl ⟨by rfl, ?_⟩
    intro w' hSw
    (try dsimp only at hSw)
    go_simp
    all_goals (with_reducible rfl)
  · assumption
  try simp only [Act.put, List.setIfInBounds_toArray, List.set_cons_zero, List.set_cons_succ]
  refine wpAnyH_take (i := 6) (oi := ?_) (v := ?_) ?_ ?_ ?_ ?_ ?_ ?_ ?_ ?_
  rotate_left 2
  · simp only [List.getElem?_toArray, List.getElem?_cons_succ, List.getElem?_cons_zero]; rfl
  · kernel_rfl
  · kernel_rfl
  · kernel_rfl
  · exact fun _ _ _ h => h
  · refine Or.inl ⟨by rfl, ?_⟩
    intro w' hSw
    (try dsimp only at hSw)
    go_simp
    all_goals (with_reducible rfl)
  · assumption
  try simp only [Act.put, List.setIfInBounds_toArray, List.set_cons_zero, List.set_cons_succ]
  refine wpAnyH_done (by kernel_rfl) ?_ _
  clear hHeld e1 e2
  have kc2 := KC2.out.rd
  go_wp2
  go_ret
  exact ⟨rfl, G.below_on B1.out (G.below_on (below_draws (Below.refl _ _) 1) B2.out)⟩
end
end Go.Proofs.YtbgcpljekcagiaaGreat.R9
/- The reference's cell (weighbridgeref09): young, Room. -/
namespace Go.Proofs.YtbgcpljekcagiaaGreat.R9
set_option linter.unusedSimpArgs false
set_option linter.unusedVariables false
set_option maxRecDepth 100000
open Go Go.ChangeShapes Go.WideShapes Go.ChangeAt Go.RowKit
section
variable {F S C D U W B L t : Int} (x1 x2 x3 x4 x5 : Int) (sm : Bool)
set_option maxHeartbeats 2000000 in
theorem young_any (hc : Ce F S C D t) (hW : 1 ≤ W ∧ W ≤ 1048576) (w : World) (y : Bool) (hy : y = decide (t < S + W)) :
    Calls Tryz.prog 66 #[cvV F S C D, rvV L W B x1 x2 x3 x4 x5 sm, .int .i64 t] w fun e w' => e = .returned (.bool y) ∧ Below w.heap.size w w' := by
  obtain ⟨d, hd⟩ : ∃ z, z = t - S := ⟨_, rfl⟩
  have e1 : t - S = d := hd.symm
  have hS := hc.S
  have ht := hc.t
  have u1 : decide (d < W) = y := by rw [hy, hd]; by_cases q : t < S + W; rw [decide_eq_true q, decide_eq_true (by omega)]; rw [decide_eq_false q, decide_eq_false (by omega)]
  obtain ⟨w1, hw1, k1, b1, s1⟩ := box9 w (cvC F S C D) 61
  obtain ⟨w2, hw2, k2, b2, s2⟩ := box9 w1 (rvC L W B x1 x2 x3 x4 x5 sm) 29
  have K1 := Lib.hid (Blk.keep k1 b2)
  have B2 := Lib.hid (G.below_on b1 b2)
  have k1r := K1.out.rd
  have k2r := k2.rd
  clear hd hc hy k1 b1 s1 b2 s2
  go_enter Tryz.func66, Tryz.ntmps66
  go_wp2
  go_ret
  exact ⟨rfl, B2.out⟩
set_option maxHeartbeats 8000000 in
theorem room_any (h : Ru U W B L) (hc : Ce F S C D t) (w : World) :
    Calls Tryz.prog 31 #[cvV F S C D, rvV L W B x1 x2 x3 x4 x5 sm, .int .i64 t] w fun e w' => e = .returned (.int .i64 (room F S C D U W B L t)) ∧ Below w.heap.size w w' := by
  have hub := h.ub
  have hB := h.B
  have hL := h.L
  obtain ⟨w1, hw1, k1, b1, s1⟩ := box9 w #[.int .i64 F, .int .i64 S, .int .i64 C, .int .i64 D] 61
  obtain ⟨w2, hw2, k2, b2, s2⟩ := box9 w1 #[.int .i64 L, .int .i64 W, .int .i64 B, .int .i64 x1, .int .i64 x2, .int .i64 x3, .int .i64 x4, .int .i64 x5, .bool sm] 29
  obtain ⟨w3, hw3, k3, b3, s3⟩ := box9 w2 #[.int .i64 F, .int .i64 S, .int .i64 C, .int .i64 D] 61
  obtain ⟨cb, hcb⟩ : ∃ z, z = w.heap.size := ⟨_, rfl⟩
  obtain ⟨rb, hrb⟩ : ∃ z, z = w1.heap.size := ⟨_, rfl⟩
  obtain ⟨db, hdb⟩ : ∃ z, z = w2.heap.size := ⟨_, rfl⟩
  have HBX := Lib.hid (And.intro hcb (And.intro hrb hdb))
  rw [← hcb] at k1
  rw [← hrb] at k2
  rw [← hdb] at k3
  have NE := Lib.hid (show cb ≠ db ∧ rb ≠ db ∧ w.heap.size ≤ db from ⟨by omega, by omega, by omega⟩)
  have KC := Lib.hid (Blk.keep (Blk.keep k1 b2) b3)
  have KR := Lib.hid (Blk.keep k2 b3)
  have KD := Lib.hid (show CAt w3 db F S C D from k3)
  have B3 := Lib.hid (G.below_on (G.below_on b1 b2) b3)
  have HR := Lib.hid h
  have HC := Lib.hid hc
  have k1r := (Blk.keep k1 b2).rd
  clear k1 b1 s1 b2 s2 k3 b3 s3 hcb hrb hdb h hc k2
  go_enter Tryz.func31, Tryz.ntmps31
  go_upto_region 2 with (fail)
  rw [← HBX.out.1, ← HBX.out.2.1]
  clear hw1 hw2
  go_wp2
  rw [← HBX.out.2.2]
  clear hw3 k1r
  go_loopg [7] B.toNat (fun kk nv wq => ∃ k : Int, Hid (kk = (B - k).toNat) ∧ Hid (0 ≤ k ∧ k ≤ base F U B t) ∧ nv = .int .i64 k ∧ Hid (CAt wq db (fz F U t k) S C D) ∧ Hid (Blk wq cb 61 #[.int .i64 F, .int .i64 S, .int .i64 C, .int .i64 D]) ∧ Hid (Blk wq rb 29 #[.int .i64 L, .int .i64 W, .int .i64 B, .int .i64 x1, .int .i64 x2, .int .i64 x3, .int .i64 x4, .int .i64 x5, .bool sm]) ∧ Hid (Fr (fun k => k = db) w3 wq))
  case atStart => exact ⟨0, Lib.hid (by rw [Int.sub_zero]), Lib.hid ⟨Int.le_refl _, base_lo⟩, rfl, Lib.hid (by rw [fz_zero]; exact KD.out), KC, KR, Lib.hid (Fr.refl _ _)⟩
  case round =>
    obtain ⟨k, HK, HB, rfl, HD, HC2, HR2, HF⟩ := hrel
    have hbh := base_hi (F := F) (U := U) (t := t) (show 0 ≤ B by omega)
    have hkb := HB.out
    have hk0 : 0 ≤ k ∧ k ≤ B := by omega
    have kr := HR2.out.rd
    have hfz := Lib.hid (fz_max (F := F) (t := t) (show 0 ≤ U by omega) hk0.1)
    have CE := Lib.hid (show Ce (fz F U t k) S C D t from ⟨by
      have h1 := HC.out.F
      have h2 := HR.out.bu hk0.1 hk0.2
      have h3 := HC.out.t
      have h4 := hfz.out
      have h5 : k = 0 ∨ 1 ≤ k := by omega
      rcases h5 with e | e
      · rw [e, fz_zero]; exact h1
      · have h6 := (base_iff (F := F) (t := t) (B := B) hub.1 e).1 hkb.2
        have h7 := HR.out.bu (Int.le_trans (by omega) hB.1) (Int.le_refl B)
        unfold fz
        rw [if_neg (by omega)]
        omega, HC.out.S, HC.out.C, HC.out.D, HC.out.t⟩)
    by_cases hgo : k + 1 ≤ base F U B t
    · have hi := (one_iff (F := F) (t := t) (B := B) hub.1 hk0.1).1 hgo
      have u1 : decide (k < B) = true := by rw [decide_eq_true_iff]; exact hi.1
      have HGO := Lib.hid hgo
      have CO := Lib.hid (one_yes x1 x2 x3 x4 x5 sm HR.out CE.out db wr HD.out hi.2)
      have HFN := Lib.hid (show max (fz F U t k) t + U = fz F U t (k + 1) from by
        rw [hfz.out]
        unfold fz
        rw [if_neg (by omega), Int.add_mul, Int.one_mul]
        omega)
      clear hi hgo hbh hkb
      go_wp2_with (go_at_call 65; (refine CO.out.mono ?_; rintro e y1 ⟨rfl, a1, f1⟩; have A1 := Lib.hid a1; have F1 := Lib.hid f1; clear a1 f1))
      go_roundg (B - (k + 1)).toNat
      case measure => have := HK.out; have := hk0; have h3 := HGO.out; have h4 := base_hi (F := F) (U := U) (t := t) (show 0 ≤ B by omega); omega
      case rel => exact ⟨k + 1, Lib.hid rfl, Lib.hid ⟨by omega, HGO.out⟩, rfl, Lib.hid (by rw [← HFN.out]; exact A1.out), Lib.hid (HC2.out.fr F1.out NE.out.1), Lib.hid (HR2.out.fr F1.out NE.out.2.1), Lib.hid (HF.out.trans F1.out)⟩
    · have HEND := Lib.hid (show k = base F U B t by omega)
      by_cases hkB : k < B
      focus
        have u1 : decide (k < B) = true := by rw [decide_eq_true_iff]; exact hkB
        have CO := Lib.hid (one_no x1 x2 x3 x4 x5 sm HR.out CE.out db wr HD.out (by
          have := (one_iff (F := F) (t := t) (B := B) hub.1 hk0.1)
          by_cases q : max (fz F U t k) t ≤ t + (B - 1) * U
          · exact absurd (this.2 ⟨hkB, q⟩) hgo
          · omega))
        clear hgo hkB hbh hkb
        go_upto_region 5 with (go_at_call 65; (refine CO.out.mono ?_; rintro e y1 ⟨rfl, d1⟩; have D1 := Lib.hid d1; clear d1))
        have KC5 := Lib.hid (HC2.out.keep D1.out)
        have KR5 := Lib.hid (HR2.out.keep D1.out)
        have F5 := Lib.hid (HF.out.trans (Fr.of_below D1.out))
        clear CO u1 D1
      rotate_left
      focus
        have u1 : decide (k < B) = false := by rw [decide_eq_false_iff_not]; exact hkB
        clear hgo hkB hbh hkb
        go_upto_region 5 with (fail)
        have KC5 := Lib.hid HC2.out
        have KR5 := Lib.hid HR2.out
        have F5 := Lib.hid HF.out
        clear u1
      rotate_left
      all_goals
        clear kr
        have kc5 := KC5.out.rd
        have kr5 := KR5.out.rd
        have B5 := Lib.hid (B3.out.trans (F5.out.below B3.out.size (fun g hg => by rw [hg]; exact NE.out.2.2)))
        have hCb := HC.out.C
        have hDb := HC.out.D
        by_cases hy : t < S + W
        · have CY := Lib.hid (fun wx => young_any (L := L) (B := B) x1 x2 x3 x4 x5 sm HC.out HR.out.W wx true (decide_eq_true hy).symm)
          have HRO := Lib.hid (show room F S C D U W B L t = min k (max 0 (L - (C + D))) from by rw [HEND.out]; unfold room rest; rw [if_pos hy])
          clear hy
          go_upto_region 6 with (go_at_call 66; (refine (CY.out _).mono ?_; rintro e y2 ⟨rfl, d2⟩; have KC6 := Lib.hid (KC5.out.keep d2); have KR6 := Lib.hid (KR5.out.keep d2); have B6 := Lib.hid (G.below_on B5.out d2); clear d2))
          clear kc5 kr5 CY
          have kc6 := KC6.out.rd
          have kr6 := KR6.out.rd
          obtain ⟨l1, hl1⟩ : ∃ z, z = L - C := ⟨_, rfl⟩
          have e1 : L - C = l1 := hl1.symm
          have hl1b : -4611686018427387904 ≤ l1 ∧ l1 ≤ 1048576 := by omega
          obtain ⟨le, hle⟩ : ∃ z, z = l1 - D := ⟨_, rfl⟩
          have e2 : l1 - D = le := hle.symm
          have hleb : -5764607523034234880 ≤ le ∧ le ≤ 1048576 := by omega
          have HLE := Lib.hid (show L - (C + D) = le by omega)
          clear hl1 hle
          by_cases hneg : le < 0
          · have u1 : decide (le < 0) = true := by rw [decide_eq_true_iff]; exact hneg
            have HNG := Lib.hid hneg
            clear hneg
            by_cases hk : 0 < k
            · have u2 : decide (0 < k) = true := by rw [decide_eq_true_iff]; exact hk
              have HFI := Lib.hid (show room F S C D U W B L t = 0 from by rw [HRO.out, HLE.out]; have := HNG.out; omega)
              clear hk
              go_wp2
              go_ret
              exact ⟨by rw [HFI.out]; rfl, B6.out⟩
            · have u2 : decide (0 < k) = false := by rw [decide_eq_false_iff_not]; exact hk
              have HFI := Lib.hid (show room F S C D U W B L t = k from by rw [HRO.out, HLE.out]; have := HNG.out; omega)
              clear hk
              go_wp2
              go_ret
              exact ⟨by rw [HFI.out]; rfl, B6.out⟩
          · have u1 : decide (le < 0) = false := by rw [decide_eq_false_iff_not]; exact hneg
            have HNG := Lib.hid hneg
            clear hneg
            by_cases hk : le < k
            · have u2 : decide (le < k) = true := by rw [decide_eq_true_iff]; exact hk
              have HFI := Lib.hid (show room F S C D U W B L t = le from by rw [HRO.out, HLE.out]; have := HNG.out; omega)
              clear hk
              go_wp2
              go_ret
              exact ⟨by rw [HFI.out]; rfl, B6.out⟩
            · have u2 : decide (le < k) = false := by rw [decide_eq_false_iff_not]; exact hk
              have HFI := Lib.hid (show room F S C D U W B L t = k from by rw [HRO.out, HLE.out]; have := HNG.out; omega)
              clear hk
              go_wp2
              go_ret
              exact ⟨by rw [HFI.out]; rfl, B6.out⟩
        · have CY := Lib.hid (fun wx => young_any (L := L) (B := B) x1 x2 x3 x4 x5 sm HC.out HR.out.W wx false (decide_eq_false hy).symm)
          have HRO := Lib.hid (show room F S C D U W B L t = k from by rw [HEND.out]; unfold room; rw [if_neg hy])
          clear hy
          go_wp2_with (go_at_call 66; (refine (CY.out _).mono ?_; rintro e y2 ⟨rfl, d2⟩; have B6 := Lib.hid (G.below_on B5.out d2); clear d2))
          go_ret
          exact ⟨by rw [HRO.out]; rfl, B6.out⟩
end
end Go.Proofs.YtbgcpljekcagiaaGreat.R9
/- The reference's cell (weighbridgeref09): Take, Wait. -/
namespace Go.Proofs.YtbgcpljekcagiaaGreat.R9
set_option linter.unusedSimpArgs false
set_option linter.unusedVariables false
set_option maxRecDepth 100000
open Go Go.ChangeShapes Go.WideShapes Go.ChangeAt Go.RowKit
section
variable {F S C D U W B L t cost : Int} (x1 x2 x3 x4 x5 : Int) (sm : Bool)
set_option maxHeartbeats 4000000 in
theorem take_no (h : Ru U W B L) (hc : Ce F S C D t) (h1 : 1 ≤ cost) (hn : room F S C D U W B L t < cost) (b : Nat) (w : World) (ha : CAt w b F S C D) :
    Calls Tryz.prog 33 #[.pointer (some ⟨b, 0, none⟩), rvV L W B x1 x2 x3 x4 x5 sm, .int .i64 t, .int .i64 cost] w fun e w' => e = .returned (.bool false) ∧ Below w.heap.size w w' := by
  have u1 : decide (cost < 1) = false := by rw [decide_eq_false_iff_not]; omega
  have CR := Lib.hid (fun wx => room_any x1 x2 x3 x4 x5 sm h hc wx)
  obtain ⟨ro, hro⟩ : ∃ z, z = room F S C D U W B L t := ⟨_, rfl⟩
  rw [← hro] at CR hn
  have u2 : decide (ro < cost) = true := by rw [decide_eq_true_iff]; exact hn
  obtain ⟨w1, hw1, k1, b1', s1⟩ := box9 w #[.int .i64 L, .int .i64 W, .int .i64 B, .int .i64 x1, .int .i64 x2, .int .i64 x3, .int .i64 x4, .int .i64 x5, .bool sm] 29
  obtain ⟨rb, hrb⟩ : ∃ z, z = w.heap.size := ⟨_, rfl⟩
  have HRB := Lib.hid hrb
  rw [← hrb] at k1
  have KR := Lib.hid k1
  have KC := Lib.hid (ha.keep b1')
  have B1 := Lib.hid b1'
  clear h1 hn k1 b1' s1 hro ha hrb h hc
  go_enter Tryz.func33, Tryz.ntmps33
  go_upto_region 1 with (fail)
  rw [← HRB.out]
  clear hw1
  have KRD := Lib.hid (show Blk w1.drew rb 29 #[.int .i64 L, .int .i64 W, .int .i64 B, .int .i64 x1, .int .i64 x2, .int .i64 x3, .int .i64 x4, .int .i64 x5, .bool sm] from KR.out)
  have KCD := Lib.hid (show CAt w1.drew b F S C D from KC.out)
  have st : (∀ j, w1.drew.cell? ⟨rb, j, none⟩ = (#[.int .i64 L, .int .i64 W, .int .i64 B, .int .i64 x1, .int .i64 x2, .int .i64 x3, .int .i64 x4, .int .i64 x5, .bool sm] : Array Value)[j]?) ∧ ∀ j, w1.drew.cell? ⟨b, j, none⟩ = (#[.int .i64 F, .int .i64 S, .int .i64 C, .int .i64 D] : Array Value)[j]? := ⟨KRD.out.rd, KCD.out.rd⟩
  refine wp_region_held_drew (S := fun wx => (∀ j, wx.cell? ⟨rb, j, none⟩ = (#[.int .i64 L, .int .i64 W, .int .i64 B, .int .i64 x1, .int .i64 x2, .int .i64 x3, .int .i64 x4, .int .i64 x5, .bool sm] : Array Value)[j]?) ∧ ∀ j, wx.cell? ⟨b, j, none⟩ = (#[.int .i64 F, .int .i64 S, .int .i64 C, .int .i64 D] : Array Value)[j]?) (by kernel_rfl) st (fun hHeld => ?_)
  clear st
  refine wpAnyH_take (i := 0) (oi := ?_) (v := ?_) ?_ ?_ ?_ ?_ ?_ ?_ ?_ ?_
  rotate_left 2
  · simp only [List.getElem?_toArray, List.getElem?_cons_succ, List.getElem?_cons_zero]; rfl
  · kernel_rfl
  · kernel_rfl
  · kernel_rfl
  · exact fun _ _ _ h => h
  · refine Or.inl ⟨by rfl, ?_⟩
    intro w' hSw
    (try dsimp only at hSw)
    go_simp
    all_goals (with_reducible rfl)
  · assumption
  try simp only [Act.put, List.setIfInBounds_toArray, List.set_cons_zero, List.set_cons_succ]
  refine wpAnyH_take (i := 1) (oi := ?_) (v := ?_) ?_ ?_ ?_ ?_ ?_ ?_ ?_ ?_
  rotate_left 2
  · simp only [List.getElem?_toArray, List.getElem?_cons_succ, List.getElem?_cons_zero]; rfl
  · kernel_rfl
  · kernel_rfl
  · kernel_rfl
  · exact fun _ _ _ h => h
  · refine Or.inl ⟨by rfl, ?_⟩
    intro w' hSw
    (try dsimp only at hSw)
    go_simp
    all_goals (with_reducible rfl)
  · assumption
  try simp only [Act.put, List.setIfInBounds_toArray, List.set_cons_zero, List.set_cons_succ]
  refine wpAnyH_take (i := 2) (oi := ?_) (v := ?_) ?_ ?_ ?_ ?_ ?_ ?_ ?_ ?_
  rotate_left 2
  · simp only [List.getElem?_toArray, List.getElem?_cons_succ, List.getElem?_cons_zero]; rfl
  · kernel_rfl
  · kernel_rfl
  · kernel_rfl
  · exact fun _ _ _ h => h
  · refine Or.inl ⟨by rfl, ?_⟩
    intro w' hSw
    (try dsimp only at hSw)
    go_simp
    all_goals (with_reducible rfl)
  · assumption
  try simp only [Act.put, List.setIfInBounds_toArray, List.set_cons_zero, List.set_cons_succ]
  refine wpAnyH_take (i := 3) (oi := ?_) (v := ?_) ?_ ?_ ?_ ?_ ?_ ?_ ?_ ?_
  rotate_left 2
  · simp only [List.getElem?_toArray, List.getElem?_cons_succ, List.getElem?_cons_zero]; rfl
  · kernel_rfl
  · kernel_rfl
  · kernel_rfl
  · exact fun _ _ _ h => h
  · refine Or.inl ⟨by rfl, ?_⟩
    intro w' hSw
    (try dsimp only at hSw)
    go_simp
    all_goals (with_reducible rfl)
  · assumption
  try simp only [Act.put, List.setIfInBounds_toArray, List.set_cons_zero, List.set_cons_succ]
  refine wpAnyH_take (i := 4) (oi := ?_) (v := ?_) ?_ ?_ ?_ ?_ ?_ ?_ ?_ ?_
  rotate_left 2
  · simp only [List.getElem?_toArray, List.getElem?_cons_succ, List.getElem?_cons_zero]; rfl
  · kernel_rfl
  · kernel_rfl
  · kernel_rfl
  · exact fun _ _ _ h => h
  · refine Or.inl ⟨by rfl, ?_⟩
    intro w' hSw
    (try dsimp only at hSw)
    go_simp
    all_goals (with_reducible rfl)
  · assumption
  try simp only [Act.put, List.setIfInBounds_toArray, List.set_cons_zero, List.set_cons_succ]
  refine wpAnyH_take (i := 5) (oi := ?_) (v := ?_) ?_ ?_ ?_ ?_ ?_ ?_ ?_ ?_
  rotate_left 2
  · simp only [List.getElem?_toArray, List.getElem?_cons_succ, List.getElem?_cons_zero]; rfl
  · kernel_rfl
  · kernel_rfl
  · kernel_rfl
  · exact fun _ _ _ h => h
  · refine Or.inl ⟨by rfl, ?_⟩
    intro w' hSw
    (try dsimp only at hSw)
    go_simp
    all_goals (with_reducible rfl)
  · assumption
  try simp only [Act.put, List.setIfInBounds_toArray, List.set_cons_zero, List.set_cons_succ]
  refine wpAnyH_take (i := 6) (oi := ?_) (v := ?_) ?_ ?_ ?_ ?_ ?_ ?_ ?_ ?_
  rotate_left 2
  · simp only [List.getElem?_toArray, List.getElem?_cons_succ, List.getElem?_cons_zero]; rfl
  · kernel_rfl
  · kernel_rfl
  · kernel_rfl
  · exact fun _ _ _ h => h
  · refine Or.inl ⟨by rfl, ?_⟩
    intro w' hSw
    (try dsimp only at hSw)
    go_simp
    all_goals (with_reducible rfl)
  · assumption
  try simp only [Act.put, List.setIfInBounds_toArray, List.set_cons_zero, List.set_cons_succ]
  refine wpAnyH_take (i := 7) (oi := ?_) (v := ?_) ?_ ?_ ?_ ?_ ?_ ?_ ?_ ?_
  rotate_left 2
  · simp only [List.getElem?_toArray, List.getElem?_cons_succ, List.getElem?_cons_zero]; rfl
  · kernel_rfl
  · kernel_rfl
  · kernel_rfl
  · exact fun _ _ _ h => h
  · refine Or.inl ⟨by rfl, ?_⟩
    intro w' hSw
    (try dsimp only at hSw)
    go_simp
    all_goals (with_reducible rfl)
  · assumption
  try simp only [Act.put, List.setIfInBounds_toArray, List.set_cons_zero, List.set_cons_succ]
  refine wpAnyH_take (i := 8) (oi := ?_) (v := ?_) ?_ ?_ ?_ ?_ ?_ ?_ ?_ ?_
  rotate_left 2
  · simp only [List.getElem?_toArray, List.getElem?_cons_succ, List.getElem?_cons_zero]; rfl
  · kernel_rfl
  · kernel_rfl
  · kernel_rfl
  · exact fun _ _ _ h => h
  · refine Or.inl ⟨by rfl, ?_⟩
    intro w' hSw
    (try dsimp only at hSw)
    go_simp
    all_goals (with_reducible rfl)
  · assumption
  try simp only [Act.put, List.setIfInBounds_toArray, List.set_cons_zero, List.set_cons_succ]
  refine wpAnyH_ready (rs := [9]) (by kernel_rfl) (by simp) ?_
  refine AllReadyH.cons (o := ?_) ?_ ?_ ?_
  rotate_left 1
  · simp only [List.getElem?_toArray, List.getElem?_cons_succ, List.getElem?_cons_zero]; rfl
  rotate_left 1
  · exact AllReadyH.nil
  intro K hK
  go_simp
  refine (CR.out _).mono ?_; rintro e w2 ⟨rfl, b2⟩; have B2 := Lib.hid b2; clear b2
  refine hK.out _ _ ⟨(KRD.out.keep B2.out).rd, (KCD.out.keep B2.out).rd⟩ (fun hHeld => ?_)
  clear hK K
  try simp only [Act.put, List.setIfInBounds_toArray, List.set_cons_zero, List.set_cons_succ]
  refine wpAnyH_take (i := 10) (oi := ?_) (v := ?_) ?_ ?_ ?_ ?_ ?_ ?_ ?_ ?_
  rotate_left 2
  · simp only [List.getElem?_toArray, List.getElem?_cons_succ, List.getElem?_cons_zero]; rfl
  · kernel_rfl
  · kernel_rfl
  · kernel_rfl
  · exact fun _ _ _ h => h
  · refine Or.inl ⟨by rfl, ?_⟩
    intro w' hSw
    (try dsimp only at hSw)
    go_simp
    all_goals (with_reducible rfl)
  · assumption
  try simp only [Act.put, List.setIfInBounds_toArray, List.set_cons_zero, List.set_cons_succ]
  refine wpAnyH_take (i := 11) (oi := ?_) (v := ?_) ?_ ?_ ?_ ?_ ?_ ?_ ?_ ?_
  rotate_left 2
  · simp only [List.getElem?_toArray, List.getElem?_cons_succ, List.getElem?_cons_zero]; rfl
  · kernel_rfl
  · kernel_rfl
  · kernel_rfl
  · exact fun _ _ _ h => h
  · refine Or.inl ⟨by rfl, ?_⟩
    intro w' hSw
    (try dsimp only at hSw)
    go_simp
    all_goals (with_reducible rfl)
  · assumption
  try simp only [Act.put, List.setIfInBounds_toArray, List.set_cons_zero, List.set_cons_succ]
  refine wpAnyH_done (by kernel_rfl) ?_ _
  clear hHeld
  go_wp2
  go_ret
  exact ⟨rfl, G.below_on B1.out (G.below_on (below_draws (Below.refl _ _) 1) B2.out)⟩
set_option maxHeartbeats 8000000 in
theorem take_yes (h : Ru U W B L) (hc : Ce F S C D t) (h1 : 1 ≤ cost) (hy : cost ≤ room F S C D U W B L t) (b : Nat) (w : World) (ha : CAt w b F S C D) :
    Calls Tryz.prog 33 #[.pointer (some ⟨b, 0, none⟩), rvV L W B x1 x2 x3 x4 x5 sm, .int .i64 t, .int .i64 cost] w fun e w' => e = .returned (.bool true) ∧ CAt w' b (max F t + cost * U) S C (D + cost) ∧ Fr (fun k => k = b) w w' := by
  have hub := h.ub
  have hB := h.B
  have hL := h.L
  have hcb : cost ≤ base F U B t := Int.le_trans hy room_base
  have hcB : cost ≤ B := Int.le_trans hcb (base_hi (by omega))
  have hcr : cost ≤ 1048576 := by omega
  have u1 : decide (cost < 1) = false := by rw [decide_eq_false_iff_not]; omega
  have CR := Lib.hid (fun wx => room_any x1 x2 x3 x4 x5 sm h hc wx)
  obtain ⟨ro, hro⟩ : ∃ z, z = room F S C D U W B L t := ⟨_, rfl⟩
  rw [← hro] at CR hy
  have u2 : decide (ro < cost) = false := by rw [decide_eq_false_iff_not]; omega
  obtain ⟨w1, hw1, k1, b1', s1⟩ := box9 w #[.int .i64 L, .int .i64 W, .int .i64 B, .int .i64 x1, .int .i64 x2, .int .i64 x3, .int .i64 x4, .int .i64 x5, .bool sm] 29
  obtain ⟨rb, hrb⟩ : ∃ z, z = w.heap.size := ⟨_, rfl⟩
  have HRB := Lib.hid hrb
  have NE := Lib.hid (show rb ≠ b from by have := lt_of_block ha; omega)
  rw [← hrb] at k1
  have KR := Lib.hid k1
  have KC := Lib.hid (ha.keep b1')
  have B1 := Lib.hid b1'
  have HR := Lib.hid h
  have HC := Lib.hid hc
  have HCB := Lib.hid hcb
  have hD := hc.D
  clear hy k1 b1' s1 hro ha hrb h hc hcb
  go_enter Tryz.func33, Tryz.ntmps33
  go_upto_region 1 with (fail)
  rw [← HRB.out]
  clear hw1
  have KRD := Lib.hid (show Blk w1.drew rb 29 #[.int .i64 L, .int .i64 W, .int .i64 B, .int .i64 x1, .int .i64 x2, .int .i64 x3, .int .i64 x4, .int .i64 x5, .bool sm] from KR.out)
  have KCD := Lib.hid (show CAt w1.drew b F S C D from KC.out)
  have st : (∀ j, w1.drew.cell? ⟨rb, j, none⟩ = (#[.int .i64 L, .int .i64 W, .int .i64 B, .int .i64 x1, .int .i64 x2, .int .i64 x3, .int .i64 x4, .int .i64 x5, .bool sm] : Array Value)[j]?) ∧ ∀ j, w1.drew.cell? ⟨b, j, none⟩ = (#[.int .i64 F, .int .i64 S, .int .i64 C, .int .i64 D] : Array Value)[j]? := ⟨KRD.out.rd, KCD.out.rd⟩
  refine wp_region_held_drew (S := fun wx => (∀ j, wx.cell? ⟨rb, j, none⟩ = (#[.int .i64 L, .int .i64 W, .int .i64 B, .int .i64 x1, .int .i64 x2, .int .i64 x3, .int .i64 x4, .int .i64 x5, .bool sm] : Array Value)[j]?) ∧ ∀ j, wx.cell? ⟨b, j, none⟩ = (#[.int .i64 F, .int .i64 S, .int .i64 C, .int .i64 D] : Array Value)[j]?) (by kernel_rfl) st (fun hHeld => ?_)
  clear st
  refine wpAnyH_take (i := 0) (oi := ?_) (v := ?_) ?_ ?_ ?_ ?_ ?_ ?_ ?_ ?_
  rotate_left 2
  · simp only [List.getElem?_toArray, List.getElem?_cons_succ, List.getElem?_cons_zero]; rfl
  · kernel_rfl
  · kernel_rfl
  · kernel_rfl
  · exact fun _ _ _ h => h
  · refine Or.inl ⟨by rfl, ?_⟩
    intro w' hSw
    (try dsimp only at hSw)
    go_simp
    all_goals (with_reducible rfl)
  · assumption
  try simp only [Act.put, List.setIfInBounds_toArray, List.set_cons_zero, List.set_cons_succ]
  refine wpAnyH_take (i := 1) (oi := ?_) (v := ?_) ?_ ?_ ?_ ?_ ?_ ?_ ?_ ?_
  rotate_left 2
  · simp only [List.getElem?_toArray, List.getElem?_cons_succ, List.getElem?_cons_zero]; rfl
  · kernel_rfl
  · kernel_rfl
  · kernel_rfl
  · exact fun _ _ _ h => h
  · refine Or.inl ⟨by rfl, ?_⟩
    intro w' hSw
    (try dsimp only at hSw)
    go_simp
    all_goals (with_reducible rfl)
  · assumption
  try simp only [Act.put, List.setIfInBounds_toArray, List.set_cons_zero, List.set_cons_succ]
  refine wpAnyH_take (i := 2) (oi := ?_) (v := ?_) ?_ ?_ ?_ ?_ ?_ ?_ ?_ ?_
  rotate_left 2
  · simp only [List.getElem?_toArray, List.getElem?_cons_succ, List.getElem?_cons_zero]; rfl
  · kernel_rfl
  · kernel_rfl
  · kernel_rfl
  · exact fun _ _ _ h => h
  · refine Or.inl ⟨by rfl, ?_⟩
    intro w' hSw
    (try dsimp only at hSw)
    go_simp
    all_goals (with_reducible rfl)
  · assumption
  try simp only [Act.put, List.setIfInBounds_toArray, List.set_cons_zero, List.set_cons_succ]
  refine wpAnyH_take (i := 3) (oi := ?_) (v := ?_) ?_ ?_ ?_ ?_ ?_ ?_ ?_ ?_
  rotate_left 2
  · simp only [List.getElem?_toArray, List.getElem?_cons_succ, List.getElem?_cons_zero]; rfl
  · kernel_rfl
  · kernel_rfl
  · kernel_rfl
  · exact fun _ _ _ h => h
  · refine Or.inl ⟨by rfl, ?_⟩
    intro w' hSw
    (try dsimp only at hSw)
    go_simp
    all_goals (with_reducible rfl)
  · assumption
  try simp only [Act.put, List.setIfInBounds_toArray, List.set_cons_zero, List.set_cons_succ]
  refine wpAnyH_take (i := 4) (oi := ?_) (v := ?_) ?_ ?_ ?_ ?_ ?_ ?_ ?_ ?_
  rotate_left 2
  · simp only [List.getElem?_toArray, List.getElem?_cons_succ, List.getElem?_cons_zero]; rfl
  · kernel_rfl
  · kernel_rfl
  · kernel_rfl
  · exact fun _ _ _ h => h
  · refine Or.inl ⟨by rfl, ?_⟩
    intro w' hSw
    (try dsimp only at hSw)
    go_simp
    all_goals (with_reducible rfl)
  · assumption
  try simp only [Act.put, List.setIfInBounds_toArray, List.set_cons_zero, List.set_cons_succ]
  refine wpAnyH_take (i := 5) (oi := ?_) (v := ?_) ?_ ?_ ?_ ?_ ?_ ?_ ?_ ?_
  rotate_left 2
  · simp only [List.getElem?_toArray, List.getElem?_cons_succ, List.getElem?_cons_zero]; rfl
  · kernel_rfl
  · kernel_rfl
  · kernel_rfl
  · exact fun _ _ _ h => h
  · refine Or.inl ⟨by rfl, ?_⟩
    intro w' hSw
    (try dsimp only at hSw)
    go_simp
    all_goals (with_reducible rfl)
  · assumption
  try simp only [Act.put, List.setIfInBounds_toArray, List.set_cons_zero, List.set_cons_succ]
  refine wpAnyH_take (i := 6) (oi := ?_) (v := ?_) ?_ ?_ ?_ ?_ ?_ ?_ ?_ ?_
  rotate_left 2
  · simp only [List.getElem?_toArray, List.getElem?_cons_succ, List.getElem?_cons_zero]; rfl
  · kernel_rfl
  · kernel_rfl
  · kernel_rfl
  · exact fun _ _ _ h => h
  · refine Or.inl ⟨by rfl, ?_⟩
    intro w' hSw
    (try dsimp only at hSw)
    go_simp
    all_goals (with_reducible rfl)
  · assumption
  try simp only [Act.put, List.setIfInBounds_toArray, List.set_cons_zero, List.set_cons_succ]
  refine wpAnyH_take (i := 7) (oi := ?_) (v := ?_) ?_ ?_ ?_ ?_ ?_ ?_ ?_ ?_
  rotate_left 2
  · simp only [List.getElem?_toArray, List.getElem?_cons_succ, List.getElem?_cons_zero]; rfl
  · kernel_rfl
  · kernel_rfl
  · kernel_rfl
  · exact fun _ _ _ h => h
  · refine Or.inl ⟨by rfl, ?_⟩
    intro w' hSw
    (try dsimp only at hSw)
    go_simp
    all_goals (with_reducible rfl)
  · assumption
  try simp only [Act.put, List.setIfInBounds_toArray, List.set_cons_zero, List.set_cons_succ]
  refine wpAnyH_take (i := 8) (oi := ?_) (v := ?_) ?_ ?_ ?_ ?_ ?_ ?_ ?_ ?_
  rotate_left 2
  · simp only [List.getElem?_toArray, List.getElem?_cons_succ, List.getElem?_cons_zero]; rfl
  · kernel_rfl
  · kernel_rfl
  · kernel_rfl
  · exact fun _ _ _ h => h
  · refine Or.inl ⟨by rfl, ?_⟩
    intro w' hSw
    (try dsimp only at hSw)
    go_simp
    all_goals (with_reducible rfl)
  · assumption
  try simp only [Act.put, List.setIfInBounds_toArray, List.set_cons_zero, List.set_cons_succ]
  refine wpAnyH_ready (rs := [9]) (by kernel_rfl) (by simp) ?_
  refine AllReadyH.cons (o := ?_) ?_ ?_ ?_
  rotate_left 1
  · simp only [List.getElem?_toArray, List.getElem?_cons_succ, List.getElem?_cons_zero]; rfl
  rotate_left 1
  · exact AllReadyH.nil
  intro K hK
  go_simp
  refine (CR.out _).mono ?_; rintro e w2 ⟨rfl, b2⟩; have B2 := Lib.hid b2; clear b2
  refine hK.out _ _ ⟨(KRD.out.keep B2.out).rd, (KCD.out.keep B2.out).rd⟩ (fun hHeld => ?_)
  clear hK K
  try simp only [Act.put, List.setIfInBounds_toArray, List.set_cons_zero, List.set_cons_succ]
  refine wpAnyH_take (i := 10) (oi := ?_) (v := ?_) ?_ ?_ ?_ ?_ ?_ ?_ ?_ ?_
  rotate_left 2
  · simp only [List.getElem?_toArray, List.getElem?_cons_succ, List.getElem?_cons_zero]; rfl
  · kernel_rfl
  · kernel_rfl
  · kernel_rfl
  · exact fun _ _ _ h => h
  · refine Or.inl ⟨by rfl, ?_⟩
    intro w' hSw
    (try dsimp only at hSw)
    go_simp
    all_goals (with_reducible rfl)
  · assumption
  try simp only [Act.put, List.setIfInBounds_toArray, List.set_cons_zero, List.set_cons_succ]
  refine wpAnyH_take (i := 11) (oi := ?_) (v := ?_) ?_ ?_ ?_ ?_ ?_ ?_ ?_ ?_
  rotate_left 2
  · simp only [List.getElem?_toArray, List.getElem?_cons_succ, List.getElem?_cons_zero]; rfl
  · kernel_rfl
  · kernel_rfl
  · kernel_rfl
  · exact fun _ _ _ h => h
  · refine Or.inl ⟨by rfl, ?_⟩
    intro w' hSw
    (try dsimp only at hSw)
    go_simp
    all_goals (with_reducible rfl)
  · assumption
  try simp only [Act.put, List.setIfInBounds_toArray, List.set_cons_zero, List.set_cons_succ]
  refine wpAnyH_done (by kernel_rfl) ?_ _
  have K2 := Lib.hid (show CAt w2 b F S C D ∧ Blk w2 rb 29 #[.int .i64 L, .int .i64 W, .int .i64 B, .int .i64 x1, .int .i64 x2, .int .i64 x3, .int .i64 x4, .int .i64 x5, .bool sm] ∧ Fr (fun k => k = b) w w2 from ⟨KCD.out.keep B2.out, KRD.out.keep B2.out, (((Fr.of_below B1.out).trans (Fr.refl _ _).drew).trans (Fr.of_below B2.out))⟩)
  clear hHeld u1 u2 CR
  go_wp2
  go_loopg [9] cost.toNat (fun kk iv wq => ∃ i : Int, Hid (kk = (cost - i).toNat) ∧ Hid (0 ≤ i ∧ i ≤ cost) ∧ iv = .int .i64 i ∧ Hid (CAt wq b (fz F U t i) S C D) ∧ Hid (Blk wq rb 29 #[.int .i64 L, .int .i64 W, .int .i64 B, .int .i64 x1, .int .i64 x2, .int .i64 x3, .int .i64 x4, .int .i64 x5, .bool sm]) ∧ Hid (Fr (fun k => k = b) w wq))
  case atStart => exact ⟨0, Lib.hid (by rw [Int.sub_zero]), Lib.hid ⟨Int.le_refl _, by omega⟩, rfl, Lib.hid (by rw [fz_zero]; exact K2.out.1), Lib.hid K2.out.2.1, Lib.hid K2.out.2.2⟩
  case round =>
    obtain ⟨i, HK, HI, rfl, HD, HR2, HF⟩ := hrel
    have hib := HI.out
    have kr := HR2.out.rd
    by_cases hgo : i < cost
    · have hi := (one_iff (F := F) (t := t) (B := B) hub.1 hib.1).1 (Int.le_trans (by omega) HCB.out)
      have hfz := Lib.hid (fz_max (F := F) (t := t) (show 0 ≤ U by omega) hib.1)
      have CE := Lib.hid (show Ce (fz F U t i) S C D t from ⟨by
        have h1 := HC.out.F
        have h3 := HC.out.t
        have h5 : i = 0 ∨ 1 ≤ i := by omega
        rcases h5 with e | e
        · rw [e, fz_zero]; exact h1
        · have h6 := (base_iff (F := F) (t := t) (B := B) hub.1 e).1 (Int.le_trans (by omega) HCB.out)
          have h7 := HR.out.bu (Int.le_trans (by omega) hB.1) (Int.le_refl B)
          have h8 := Int.mul_nonneg hib.1 (show 0 ≤ U by omega)
          unfold fz
          rw [if_neg (by omega)]
          omega, HC.out.S, HC.out.C, HC.out.D, HC.out.t⟩)
      have u1 : decide (i < cost) = true := by rw [decide_eq_true_iff]; exact hgo
      have HGO := Lib.hid hgo
      have CO := Lib.hid (one_yes x1 x2 x3 x4 x5 sm HR.out CE.out b wr HD.out hi.2)
      have HFN := Lib.hid (show max (fz F U t i) t + U = fz F U t (i + 1) from by
        rw [hfz.out]
        unfold fz
        rw [if_neg (by omega), Int.add_mul, Int.one_mul]
        omega)
      clear hi hgo
      go_wp2_with (go_at_call 65; (refine CO.out.mono ?_; rintro e y1 ⟨rfl, a1, f1⟩; have A1 := Lib.hid a1; have F1 := Lib.hid f1; clear a1 f1))
      go_roundg (cost - (i + 1)).toNat
      case measure => have := HK.out; have := HGO.out; omega
      case rel => exact ⟨i + 1, Lib.hid rfl, Lib.hid ⟨by omega, HGO.out⟩, rfl, Lib.hid (by rw [← HFN.out]; exact A1.out), Lib.hid (HR2.out.fr F1.out NE.out), Lib.hid (HF.out.trans F1.out)⟩
    · have u1 : decide (i < cost) = false := by rw [decide_eq_false_iff_not]; exact hgo
      have hie : i = cost := by omega
      have HFZ := Lib.hid (show fz F U t i = max F t + cost * U from by rw [hie]; unfold fz; rw [if_neg (by omega)])
      obtain ⟨w5, hw5, k5, f5, z5⟩ := G.box_set HD.out 3 (.int .i64 (D + cost)) #[.int .i64 (fz F U t i), .int .i64 S, .int .i64 C, .int .i64 (D + cost)] rfl
      have H5 := Lib.hid (show CAt w5 b (max F t + cost * U) S C (D + cost) ∧ Fr (fun k => k = b) w w5 from ⟨by rw [← HFZ.out]; exact k5, HF.out.trans f5⟩)
      have kd := HD.out.rd
      have kw := HD.out.wr
      clear hgo hie k5 f5 z5
      go_wp2
      go_ret
      exact ⟨rfl, H5.out.1, H5.out.2⟩
set_option maxHeartbeats 8000000 in
theorem wait_any (h : Ru U W B L) (hc : Ce F S C D t) (h1 : 1 ≤ cost ∧ cost ≤ B) (w : World) :
    Calls Tryz.prog 32 #[cvV F S C D, rvV L W B x1 x2 x3 x4 x5 sm, .int .i64 t, .int .i64 cost] w fun e w' => e = .returned (.int .i64 (wait F S C D U W B L t cost)) ∧ Below w.heap.size w w' := by
  have hub := h.ub
  have hB := h.B
  have hL := h.L
  have CR := Lib.hid (fun wx => room_any x1 x2 x3 x4 x5 sm h hc wx)
  have CU := Lib.hid (fun wx => unit_any x1 x2 x3 x4 x5 sm h wx)
  have HZ := Lib.hid (fun hq => wait_zero (F := F) (S := S) (C := C) (D := D) (W := W) (B := B) (L := L) (t := t) hub.1 h1.1 hq)
  obtain ⟨ro, hro⟩ : ∃ z, z = room F S C D U W B L t := ⟨_, rfl⟩
  rw [← hro] at CR HZ
  obtain ⟨w1, hw1, k1, b1, s1⟩ := box9 w #[.int .i64 F, .int .i64 S, .int .i64 C, .int .i64 D] 61
  obtain ⟨w2, hw2, k2, b2, s2⟩ := box9 w1 #[.int .i64 L, .int .i64 W, .int .i64 B, .int .i64 x1, .int .i64 x2, .int .i64 x3, .int .i64 x4, .int .i64 x5, .bool sm] 29
  obtain ⟨cb, hcb⟩ : ∃ z, z = w.heap.size := ⟨_, rfl⟩
  obtain ⟨rb, hrb⟩ : ∃ z, z = w1.heap.size := ⟨_, rfl⟩
  have HBX := Lib.hid (And.intro hcb hrb)
  rw [← hcb] at k1
  rw [← hrb] at k2
  have KC := Lib.hid (Blk.keep k1 b2)
  have KR := Lib.hid k2
  have B2 := Lib.hid (G.below_on b1 b2)
  have kc := KC.out.rd
  have kr := KR.out.rd
  have hbu := h.bu (k := B - cost) (by omega) (by omega)
  have hF := hc.F
  have hS := hc.S
  have hCb := hc.C
  have hDb := hc.D
  have ht := hc.t
  have hWb := h.W
  clear k1 k2 b1 s1 b2 s2 hro hcb hrb h hc
  go_enter Tryz.func32, Tryz.ntmps32
  go_upto_region 1 with (fail)
  rw [← HBX.out.1, ← HBX.out.2]
  clear hw1 hw2
  by_cases hle : cost ≤ ro
  · have u1 : decide (cost ≤ ro) = true := by rw [decide_eq_true_iff]; exact hle
    have HZ0 := Lib.hid (HZ.out hle)
    clear hle
    go_wp2_with (go_at_call 31; (refine (CR.out _).mono ?_; rintro e y2 ⟨rfl, d2⟩; have B3 := Lib.hid (G.below_on B2.out d2); clear d2))
    go_ret
    exact ⟨by rw [HZ0.out]; rfl, B3.out⟩
  · have u1 : decide (cost ≤ ro) = false := by rw [decide_eq_false_iff_not]; exact hle
    clear hle
    go_upto_region 3 with (go_at_call 31; (refine (CR.out _).mono ?_; rintro e y2 ⟨rfl, d2⟩; have B3 := Lib.hid (G.below_on B2.out d2); have D2 := Lib.hid d2; clear d2))
    clear kc kr u1
    have KC3 := Lib.hid (KC.out.keep D2.out)
    have KR3 := Lib.hid (KR.out.keep D2.out)
    obtain ⟨d1, hd1⟩ : ∃ z, z = B - cost := ⟨_, rfl⟩
    obtain ⟨p1, hp1⟩ : ∃ z, z = d1 * U := ⟨_, rfl⟩
    rw [← hd1, ← hp1] at hbu
    obtain ⟨a0, ha0⟩ : ∃ z, z = F - p1 := ⟨_, rfl⟩
    have e1 : IntKind.i64.wrap (B - cost) = d1 := by rw [hd1]; exact IntWalk.i64_in _ (by omega)
    have e2 : IntKind.i64.wrap (d1 * U) = p1 := by rw [← hp1]; exact IntWalk.i64_in _ (by omega)
    have e3 : IntKind.i64.wrap (F - p1) = a0 := by rw [ha0]; exact IntWalk.i64_in _ (by omega)
    have ha0b : -1099512676352 ≤ a0 ∧ a0 ≤ 6917529027641081856 := by omega
    have HWT := Lib.hid (show wait F S C D U W B L t cost = (if max t a0 < S + W ∧ rest C D L < cost then S + W else max t a0) - t from by unfold wait; rw [← hd1, ← hp1, ← ha0])
    clear hd1 hp1 ha0 hbu
    have KRD := Lib.hid (show Blk y2.drew rb 29 #[.int .i64 L, .int .i64 W, .int .i64 B, .int .i64 x1, .int .i64 x2, .int .i64 x3, .int .i64 x4, .int .i64 x5, .bool sm] from KR3.out)
    have KCD := Lib.hid (show CAt y2.drew cb F S C D from KC3.out)
    have st : (∀ j, y2.drew.cell? ⟨rb, j, none⟩ = (#[.int .i64 L, .int .i64 W, .int .i64 B, .int .i64 x1, .int .i64 x2, .int .i64 x3, .int .i64 x4, .int .i64 x5, .bool sm] : Array Value)[j]?) ∧ ∀ j, y2.drew.cell? ⟨cb, j, none⟩ = (#[.int .i64 F, .int .i64 S, .int .i64 C, .int .i64 D] : Array Value)[j]? := ⟨KRD.out.rd, KCD.out.rd⟩
    refine wp_region_held_drew (S := fun wx => (∀ j, wx.cell? ⟨rb, j, none⟩ = (#[.int .i64 L, .int .i64 W, .int .i64 B, .int .i64 x1, .int .i64 x2, .int .i64 x3, .int .i64 x4, .int .i64 x5, .bool sm] : Array Value)[j]?) ∧ ∀ j, wx.cell? ⟨cb, j, none⟩ = (#[.int .i64 F, .int .i64 S, .int .i64 C, .int .i64 D] : Array Value)[j]?) (by kernel_rfl) st (fun hHeld => ?_)
    clear st
    refine wpAnyH_take (i := 0) (oi := ?_) (v := ?_) ?_ ?_ ?_ ?_ ?_ ?_ ?_ ?_
    rotate_left 2
    · simp only [List.getElem?_toArray, List.getElem?_cons_succ, List.getElem?_cons_zero]; rfl
    · kernel_rfl
    · kernel_rfl
    · kernel_rfl
    · exact fun _ _ _ h => h
    · refine Or.inl ⟨by rfl, ?_⟩
      intro w' hSw
      (try dsimp only at hSw)
      go_simp
      all_goals (with_reducible rfl)
    · assumption
    try simp only [Act.put, List.setIfInBounds_toArray, List.set_cons_zero, List.set_cons_succ]
    refine wpAnyH_take (i := 1) (oi := ?_) (v := ?_) ?_ ?_ ?_ ?_ ?_ ?_ ?_ ?_
    rotate_left 2
    · simp only [List.getElem?_toArray, List.getElem?_cons_succ, List.getElem?_cons_zero]; rfl
    · kernel_rfl
    · kernel_rfl
    · kernel_rfl
    · exact fun _ _ _ h => h
    · refine Or.inl ⟨by rfl, ?_⟩
      intro w' hSw
      (try dsimp only at hSw)
      go_simp
      all_goals (with_reducible rfl)
    · assumption
    try simp only [Act.put, List.setIfInBounds_toArray, List.set_cons_zero, List.set_cons_succ]
    refine wpAnyH_take (i := 2) (oi := ?_) (v := ?_) ?_ ?_ ?_ ?_ ?_ ?_ ?_ ?_
    rotate_left 2
    · simp only [List.getElem?_toArray, List.getElem?_cons_succ, List.getElem?_cons_zero]; rfl
    · kernel_rfl
    · kernel_rfl
    · kernel_rfl
    · exact fun _ _ _ h => h
    · refine Or.inl ⟨by rfl, ?_⟩
      intro w' hSw
      (try dsimp only at hSw)
      go_simp
      all_goals (with_reducible rfl)
    · assumption
    try simp only [Act.put, List.setIfInBounds_toArray, List.set_cons_zero, List.set_cons_succ]
    refine wpAnyH_take (i := 3) (oi := ?_) (v := ?_) ?_ ?_ ?_ ?_ ?_ ?_ ?_ ?_
    rotate_left 2
    · simp only [List.getElem?_toArray, List.getElem?_cons_succ, List.getElem?_cons_zero]; rfl
    · kernel_rfl
    · kernel_rfl
    · kernel_rfl
    · exact fun _ _ _ h => h
    · refine Or.inl ⟨by rfl, ?_⟩
      intro w' hSw
      (try dsimp only at hSw)
      go_simp
      all_goals (with_reducible rfl)
    · assumption
    try simp only [Act.put, List.setIfInBounds_toArray, List.set_cons_zero, List.set_cons_succ]
    refine wpAnyH_take (i := 4) (oi := ?_) (v := ?_) ?_ ?_ ?_ ?_ ?_ ?_ ?_ ?_
    rotate_left 2
    · simp only [List.getElem?_toArray, List.getElem?_cons_succ, List.getElem?_cons_zero]; rfl
    · kernel_rfl
    · kernel_rfl
    · kernel_rfl
    · exact fun _ _ _ h => h
    · refine Or.inl ⟨by rfl, ?_⟩
      intro w' hSw
      (try dsimp only at hSw)
      go_simp
      all_goals (with_reducible rfl)
    · assumption
    try simp only [Act.put, List.setIfInBounds_toArray, List.set_cons_zero, List.set_cons_succ]
    refine wpAnyH_take (i := 5) (oi := ?_) (v := ?_) ?_ ?_ ?_ ?_ ?_ ?_ ?_ ?_
    rotate_left 2
    · simp only [List.getElem?_toArray, List.getElem?_cons_succ, List.getElem?_cons_zero]; rfl
    · kernel_rfl
    · kernel_rfl
    · kernel_rfl
    · exact fun _ _ _ h => h
    · refine Or.inl ⟨by rfl, ?_⟩
      intro w' hSw
      (try dsimp only at hSw)
      go_simp
      all_goals (with_reducible rfl)
    · assumption
    try simp only [Act.put, List.setIfInBounds_toArray, List.set_cons_zero, List.set_cons_succ]
    refine wpAnyH_take (i := 6) (oi := ?_) (v := ?_) ?_ ?_ ?_ ?_ ?_ ?_ ?_ ?_
    rotate_left 2
    · simp only [List.getElem?_toArray, List.getElem?_cons_succ, List.getElem?_cons_zero]; rfl
    · kernel_rfl
    · kernel_rfl
    · kernel_rfl
    · exact fun _ _ _ h => h
    · refine Or.inl ⟨by rfl, ?_⟩
      intro w' hSw
      (try dsimp only at hSw)
      go_simp
      all_goals (with_reducible rfl)
    · assumption
    try simp only [Act.put, List.setIfInBounds_toArray, List.set_cons_zero, List.set_cons_succ]
    refine wpAnyH_ready (rs := [7]) (by kernel_rfl) (by simp) ?_
    refine AllReadyH.cons (o := ?_) ?_ ?_ ?_
    rotate_left 1
    · simp only [List.getElem?_toArray, List.getElem?_cons_succ, List.getElem?_cons_zero]; rfl
    rotate_left 1
    · exact AllReadyH.nil
    intro K hK
    go_simp
    refine (CU.out _).mono ?_; rintro e y5 ⟨rfl, d5⟩; have KR5 := Lib.hid (KRD.out.keep d5); have KC5 := Lib.hid (KCD.out.keep d5); have B5 := Lib.hid (G.below_on B3.out (G.below_on (below_draws (Below.refl _ _) 1) d5)); clear d5
    refine hK.out _ _ ⟨KR5.out.rd, KC5.out.rd⟩ (fun hHeld => ?_)
    clear hK K
    try simp only [Act.put, List.setIfInBounds_toArray, List.set_cons_zero, List.set_cons_succ]
    refine wpAnyH_take (i := 8) (oi := ?_) (v := ?_) ?_ ?_ ?_ ?_ ?_ ?_ ?_ ?_
    rotate_left 2
    · simp only [List.getElem?_toArray, List.getElem?_cons_succ, List.getElem?_cons_zero]; rfl
    · kernel_rfl
    · kernel_rfl
    · kernel_rfl
    · exact fun _ _ _ h => h
    · refine Or.inl ⟨by rfl, ?_⟩
      intro w' hSw
      (try dsimp only at hSw)
      go_simp
      all_goals (with_reducible rfl)
    · assumption
    try simp only [Act.put, List.setIfInBounds_toArray, List.set_cons_zero, List.set_cons_succ]
    refine wpAnyH_take (i := 9) (oi := ?_) (v := ?_) ?_ ?_ ?_ ?_ ?_ ?_ ?_ ?_
    rotate_left 2
    · simp only [List.getElem?_toArray, List.getElem?_cons_succ, List.getElem?_cons_zero]; rfl
    · kernel_rfl
    · kernel_rfl
    · kernel_rfl
    · exact fun _ _ _ h => h
    · refine Or.inl ⟨by rfl, ?_⟩
      intro w' hSw
      (try dsimp only at hSw)
      go_simp
      all_goals (with_reducible rfl)
    · assumption
    try simp only [Act.put, List.setIfInBounds_toArray, List.set_cons_zero, List.set_cons_succ]
    refine wpAnyH_take (i := 10) (oi := ?_) (v := ?_) ?_ ?_ ?_ ?_ ?_ ?_ ?_ ?_
    rotate_left 2
    · simp only [List.getElem?_toArray, List.getElem?_cons_succ, List.getElem?_cons_zero]; rfl
    · kernel_rfl
    · kernel_rfl
    · kernel_rfl
    · exact fun _ _ _ h => h
    · refine Or.inl ⟨by rfl, ?_⟩
      intro w' hSw
      (try dsimp only at hSw)
      go_simp
      all_goals (with_reducible rfl)
    · assumption
    try simp only [Act.put, List.setIfInBounds_toArray, List.set_cons_zero, List.set_cons_succ]
    refine wpAnyH_done (by kernel_rfl) ?_ _
    clear hHeld e1 e2 e3
    have kc5 := KC5.out.rd
    have kr5 := KR5.out.rd
    obtain ⟨q1, hq1⟩ : ∃ z, z = C + D := ⟨_, rfl⟩
    obtain ⟨q2, hq2⟩ : ∃ z, z = q1 + cost := ⟨_, rfl⟩
    have g1 : C + D = q1 := hq1.symm
    have g2 : q1 + cost = q2 := hq2.symm
    have hq1b : 0 ≤ q1 ∧ q1 ≤ 5764607523034234880 := by omega
    have hq2b : 0 ≤ q2 ∧ q2 ≤ 5764607523035283456 := by omega
    have HQ := Lib.hid (show rest C D L < cost ↔ L < q2 from by unfold rest; omega)
    obtain ⟨sw, hsw⟩ : ∃ z, z = S + W := ⟨_, rfl⟩
    have g3 : S + W = sw := hsw.symm
    have HSW := Lib.hid hsw
    have hswb : -1048576 ≤ sw ∧ sw ≤ 4611686018428436480 := by omega
    clear hq1 hq2 hsw
    by_cases hlt : a0 < t
    · have HMX := Lib.hid (show max t a0 = t by omega)
      have u1 : decide (a0 < t) = true := by rw [decide_eq_true_iff]; exact hlt
      have hAb : -1099512676352 ≤ t ∧ t ≤ 6917529027641081856 := by omega
      obtain ⟨y9, hy9⟩ : ∃ z, z = t - S := ⟨_, rfl⟩
      have g4 : t - S = y9 := hy9.symm
      clear hlt
      by_cases hy : t < S + W
      · have u2 : decide (y9 < W) = true := by rw [decide_eq_true_iff]; omega
        by_cases hl : L < q2
        · have u3 : decide (L < q2) = true := by rw [decide_eq_true_iff]; exact hl
          have HF := Lib.hid (show wait F S C D U W B L t cost = sw - t from by rw [HWT.out, HMX.out, if_pos ⟨hy, HQ.out.2 hl⟩, ← HSW.out])
          clear hy9 hy hl
          go_wp2
          go_ret
          exact ⟨by rw [HF.out]; rfl, B5.out⟩
        · have u3 : decide (L < q2) = false := by rw [decide_eq_false_iff_not]; exact hl
          have HF := Lib.hid (show wait F S C D U W B L t cost = t - t from by rw [HWT.out, HMX.out, if_neg (fun g => hl (HQ.out.1 g.2))])
          clear hy9 hy hl
          go_wp2
          go_ret
          exact ⟨by rw [HF.out]; first | rfl | simp, B5.out⟩
      · have u2 : decide (y9 < W) = false := by rw [decide_eq_false_iff_not]; omega
        have HF := Lib.hid (show wait F S C D U W B L t cost = t - t from by rw [HWT.out, HMX.out, if_neg (fun g => hy g.1)])
        clear hy9 hy
        go_wp2
        go_ret
        exact ⟨by rw [HF.out]; first | rfl | simp, B5.out⟩
    · have HMX := Lib.hid (show max t a0 = a0 by omega)
      have u1 : decide (a0 < t) = false := by rw [decide_eq_false_iff_not]; exact hlt
      have hAb : -1099512676352 ≤ a0 ∧ a0 ≤ 6917529027641081856 := by omega
      obtain ⟨y9, hy9⟩ : ∃ z, z = a0 - S := ⟨_, rfl⟩
      have g4 : a0 - S = y9 := hy9.symm
      clear hlt
      by_cases hy : a0 < S + W
      · have u2 : decide (y9 < W) = true := by rw [decide_eq_true_iff]; omega
        by_cases hl : L < q2
        · have u3 : decide (L < q2) = true := by rw [decide_eq_true_iff]; exact hl
          have HF := Lib.hid (show wait F S C D U W B L t cost = sw - t from by rw [HWT.out, HMX.out, if_pos ⟨hy, HQ.out.2 hl⟩, ← HSW.out])
          clear hy9 hy hl
          go_wp2
          go_ret
          exact ⟨by rw [HF.out]; rfl, B5.out⟩
        · have u3 : decide (L < q2) = false := by rw [decide_eq_false_iff_not]; exact hl
          have HF := Lib.hid (show wait F S C D U W B L t cost = a0 - t from by rw [HWT.out, HMX.out, if_neg (fun g => hl (HQ.out.1 g.2))])
          clear hy9 hy hl
          go_wp2
          go_ret
          exact ⟨by rw [HF.out]; first | rfl | simp, B5.out⟩
      · have u2 : decide (y9 < W) = false := by rw [decide_eq_false_iff_not]; omega
        have HF := Lib.hid (show wait F S C D U W B L t cost = a0 - t from by rw [HWT.out, HMX.out, if_neg (fun g => hy g.1)])
        clear hy9 hy
        go_wp2
        go_ret
        exact ⟨by rw [HF.out]; first | rfl | simp, B5.out⟩
end
end Go.Proofs.YtbgcpljekcagiaaGreat.R9
