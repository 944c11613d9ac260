import Derived.Test.YtbgcpljekcagiaaGreatCell
import Derived.StillTailTactics
import Derived.Laws.CopyOwn
import Derived.Test.YtbgcpljekcagiaaGreatBits
import Derived.Test.YtbgcpljekcagiaaGreatZCellQ
import Derived.Test.YtbgcpljekcagiaaGreatZObj
/- The contracts of layer 9 (cell): New, Of, Wait, Take, and a plan's rule. -/
namespace Go.Proofs.YtbgcpljekcagiaaGreat
set_option linter.unusedSimpArgs false
set_option linter.unusedVariables false
set_option maxRecDepth 100000
open Go.ChangeShapes Go.WideShapes Go.ChangeAt Go.RowKit
open Ar (inR)

theorem two_allocs (w : World) (A B : Array Value) (tA tB : TypeId) : ∃ w2, (w.alloc (.cells A tA)).alloc (.cells B tB) = w2 ∧ w2.heap[w.heap.size]? = some (.cells A tA (0, 0)) ∧ w2.heap[w.heap.size + 1]? = some (.cells B tB (0, 0)) ∧ Below w.heap.size w w2 := by
  have h0 := heap_alloc_new w (.cells A tA)
  have b1 : Below w.heap.size w (w.alloc (.cells A tA)) := (Below.refl _ _).alloc (Nat.le_refl _) _
  have hs : (w.alloc (.cells A tA)).heap.size = w.heap.size + 1 := by simp
  generalize w.alloc (.cells A tA) = w1 at *
  have h1 := heap_alloc_new w1 (.cells B tB)
  have b2 : Below w1.heap.size w1 (w1.alloc (.cells B tB)) := (Below.refl _ _).alloc (Nat.le_refl _) _
  have hlt : w.heap.size < w1.heap.size := by omega
  rw [← b2.block _ hlt] at h0
  rw [hs] at h1
  exact ⟨_, rfl, h0, h1, below_from b1 b2⟩
theorem new_any (now carry : Int) (w : World) :
    Calls Tryz.prog 82 #[.int .i64 now, .int .i64 carry] w fun e w' => e = .returned (cv now now carry 0) ∧ Below w.heap.size w w' := by
  go_enter Tryz.func82, Tryz.ntmps82
  go_wp2
  (try simp only [Exit.inBlock, Exit.then])
  refine bodyPost_ret (results_cell_row rfl _ _ w.heap.size _ _ (0, 0) _ rfl (heap_alloc_new w _) Tryz.underlying64 rfl (by kernel_rfl)) rfl ?_
  exact ⟨rfl, (Below.refl _ _).alloc (Nat.le_refl _) _⟩
/-- how long it is till there is room for a cost. -/
def waitZ (F S C D U W B L now cost : Int) : Int :=
  (if max now (F - (B - cost) * U) < clamp (S + W) ∧ restZ C D L < cost then clamp (S + W) else max now (F - (B - cost) * U)) - now
set_option maxHeartbeats 1000000 in
theorem wait_any (F S C D U W B L now cost : Int) (hS : inR S) (hC : inR C) (hD : inR D) (hW : inR W) (hL : inR L) (hnow : inR now)
    (hn : inR (-clamp (C + D))) (h1 : inR (B - cost)) (h2 : inR ((B - cost) * U)) (h3 : inR (F - (B - cost) * U)) (h4 : inR (waitZ F S C D U W B L now cost)) (w : World) :
    Calls Tryz.prog 46 #[cv F S C D, pv U W B L, .int .i64 now, .int .i64 cost] w fun e w' => e = .returned (.int .i64 (waitZ F S C D U W B L now cost)) ∧ Below w.heap.size w w' := by
  obtain ⟨k, hk⟩ : ∃ z, z = B - cost := ⟨_, rfl⟩
  have e0 : IntKind.i64.wrap (B - cost) = k := by rw [IntKind.wrap_i64]; unfold inR at h1; omega
  rw [← hk] at h2 h3
  obtain ⟨p, hp⟩ : ∃ z, z = k * U := ⟨_, rfl⟩
  have e1 : IntKind.i64.wrap (k * U) = p := by rw [← hp] at h2; rw [IntKind.wrap_i64, ← hp]; unfold inR at h2; omega
  rw [← hp] at h3
  obtain ⟨v, hv⟩ : ∃ z, z = F - p := ⟨_, rfl⟩
  have e2 : IntKind.i64.wrap (F - p) = v := by rw [IntKind.wrap_i64]; unfold inR at h3; omega
  obtain ⟨rd, hrd⟩ : ∃ z, z = max now v := ⟨_, rfl⟩
  have c4 := fun w => young_any F S C D U W B L rd hS hW w
  obtain ⟨gr, hgr⟩ : ∃ z, z = clamp (S + W) := ⟨_, rfl⟩
  have c3 := fun w => grown_any F S C D U W B L hS hW w
  rw [← hgr] at c4 c3
  have c5 := fun w => rest_any F S C D U W B L hC hD hL hn w
  obtain ⟨r, hr⟩ : ∃ z, z = restZ C D L := ⟨_, rfl⟩
  rw [← hr] at c5
  have e : waitZ F S C D U W B L now cost = (if rd < gr ∧ r < cost then gr else rd) - now := by
    unfold waitZ; rw [← hk, ← hp, ← hv, ← hrd, ← hgr, ← hr]
  rw [e] at h4 ⊢
  have m1 : now < v → v = rd := by rw [hrd]; intro h; rw [Int.max_def]; split <;> omega
  have m2 : v ≤ now → now = rd := by rw [hrd]; intro h; rw [Int.max_def]; split <;> omega
  have T : Hid ((decide (rd < gr) = true ∧ decide (r < cost) = true ∧ (if rd < gr ∧ r < cost then gr else rd) = gr) ∨ (decide (rd < gr) = true ∧ decide (r < cost) = false ∧ (if rd < gr ∧ r < cost then gr else rd) = rd) ∨ (decide (rd < gr) = false ∧ (if rd < gr ∧ r < cost then gr else rd) = rd)) := by
    by_cases a : rd < gr <;> by_cases b : r < cost <;> exact Lib.hid (by simp [a, b])
  have M1 := Lib.hid m1
  have M2 := Lib.hid m2
  have C3 := Lib.hid c3
  have C4 := Lib.hid c4
  have C5 := Lib.hid c5
  clear c3 c4 c5 e hk hp hv hrd hgr hr hS hC hD hW hL hnow hn h1 h2 h3 m1 m2
  rcases Int.lt_or_le now v with g | g
  all_goals
    first | (have q := M1.out g; subst q) | (have q := M2.out g; subst q)
    clear M1 M2
    rcases T.out with ⟨t1, t2, t3⟩ | ⟨t1, t2, t3⟩ | ⟨t1, t3⟩
    all_goals
      rw [t3] at h4 ⊢
      unfold inR at h4
      clear T t3
      go_enter Tryz.func46, Tryz.ntmps46
      go_upto_region 2 with (fail)
      obtain ⟨f0, f1, f2, f3, f4, f5, f6, f7, fb⟩ := boxes_at w F S C D U W B L
      unfold boxes at *
      generalize (w.alloc (.cells #[.int .i64 F, .int .i64 S, .int .i64 C, .int .i64 D] 64)).alloc (.cells #[.int .i64 U, .int .i64 W, .int .i64 B, .int .i64 L] 81) = w2 at *
      have FB := Lib.hid fb
      have Z := Lib.hid (Below.refl w2.heap.size w2)
      have F0 := Lib.hid f0
      have F1 := Lib.hid f1
      have F2 := Lib.hid f2
      have F3 := Lib.hid f3
      have F4 := Lib.hid f4
      have F5 := Lib.hid f5
      have F6 := Lib.hid f6
      have F7 := Lib.hid f7
      clear fb
      generalize w.heap.size = b0 at f0 f1 f2 f3 f4 f5 f6 f7 F0 F1 F2 F3 F4 F5 F6 F7 ⊢
      go_wp2_with (first
        | (go_at_call 86; ((with_reducible refine (Calls.heldC C4.out _ Z.out).mono ?_); rintro e w3 ⟨rfl, y⟩; have g0 := cell_kept y F0.out; have g1 := cell_kept y F1.out; have g2 := cell_kept y F2.out; have g3 := cell_kept y F3.out; have g4 := cell_kept y F4.out; have g5 := cell_kept y F5.out; have g6 := cell_kept y F6.out; have g7 := cell_kept y F7.out; have Y := Lib.hid y; clear y))
        | (go_at_call 87; ((with_reducible refine (Calls.heldC C5.out _ Y.out).mono ?_); rintro e w4 ⟨rfl, y⟩; have g0 := cell_kept y F0.out; have g1 := cell_kept y F1.out; have g2 := cell_kept y F2.out; have g3 := cell_kept y F3.out; have g4 := cell_kept y F4.out; have g5 := cell_kept y F5.out; have g6 := cell_kept y F6.out; have g7 := cell_kept y F7.out; have Y2 := Lib.hid y; clear y))
        | (go_at_call 88; ((with_reducible refine (Calls.heldC C3.out _ Y2.out).mono ?_); rintro e w5 ⟨rfl, y⟩; have Y3 := Lib.hid y; clear y)))
      go_ret
      first
        | exact ⟨ret_i (by first | rfl | omega), below_from FB.out Y3.out⟩
        | exact ⟨ret_i (by first | rfl | omega), below_from FB.out Y2.out⟩
        | exact ⟨ret_i (by first | rfl | omega), below_from FB.out Y.out⟩
/-- the pace of a rule. -/
def unitZ (W n : Int) : Int := if W < 0 ∨ n < 1 then 0 else if W % n = 0 then W / n else W / n + 1
set_option maxRecDepth 100000 in
set_option maxHeartbeats 4000000 in
theorem of_any (L W B s1 s2 s3 s4 s5 : Int) (sm : Bool) (hW : inR W) (h1 : inR (L + 1)) (h2 : inR (L + 1 - B)) (w : World) :
    Calls Tryz.prog 37 #[.agg #[.int .i64 L, .int .i64 W, .int .i64 B, .int .i64 s1, .int .i64 s2, .int .i64 s3, .int .i64 s4, .int .i64 s5, .bool sm]] w fun e w' => e = .returned (pv (unitZ W (L + 1 - B)) W B L) ∧ Below w.heap.size w w' := by
  have e1 : IntKind.i64.wrap (L + 1) = L + 1 := by rw [IntKind.wrap_i64]; unfold inR at h1; omega
  have e2 : IntKind.i64.wrap (L + 1 - B) = L + 1 - B := by rw [IntKind.wrap_i64]; unfold inR at h2; omega
  have c1 := fun w => ceil_any W (IntKind.i64.wrap (IntKind.i64.wrap (L + 1) - B)) hW (by rw [e1, e2]; exact h2) w
  rw [e1, e2] at c1
  change ∀ w, Calls Tryz.prog 73 #[.int .i64 W, .int .i64 (L + 1 - B)] w fun e w' => e = .returned (.int .i64 (unitZ W (L + 1 - B))) ∧ w = w' at c1
  obtain ⟨U, hU⟩ : ∃ z, z = unitZ W (L + 1 - B) := ⟨_, rfl⟩
  rw [← hU] at c1 ⊢
  have c2 := c1
  rw [← e2, ← e1] at c2
  have C1 := Lib.hid c1
  have C2 := Lib.hid c2
  clear c1 c2 hU
  go_enter Tryz.func37, Tryz.ntmps37
  go_wp2_with (fail)
  have h0 := heap_alloc_new w (.cells #[.int .i64 L, .int .i64 W, .int .i64 B, .int .i64 s1, .int .i64 s2, .int .i64 s3, .int .i64 s4, .int .i64 s5, .bool sm] 29)
  have b1 : Below w.heap.size w (w.alloc (.cells #[.int .i64 L, .int .i64 W, .int .i64 B, .int .i64 s1, .int .i64 s2, .int .i64 s3, .int .i64 s4, .int .i64 s5, .bool sm] 29)) := (Below.refl _ _).alloc (Nat.le_refl _) _
  have hs : (w.alloc (.cells #[.int .i64 L, .int .i64 W, .int .i64 B, .int .i64 s1, .int .i64 s2, .int .i64 s3, .int .i64 s4, .int .i64 s5, .bool sm] 29)).heap.size = w.heap.size + 1 := by simp
  generalize w.alloc (.cells #[.int .i64 L, .int .i64 W, .int .i64 B, .int .i64 s1, .int .i64 s2, .int .i64 s3, .int .i64 s4, .int .i64 s5, .bool sm] 29) = w1 at *
  have h1 := heap_alloc_new w1 (.cells #[.int .i64 0, .int .i64 0, .int .i64 0, .int .i64 0] 81)
  have b2 : Below w1.heap.size w1 (w1.alloc (.cells #[.int .i64 0, .int .i64 0, .int .i64 0, .int .i64 0] 81)) := (Below.refl _ _).alloc (Nat.le_refl _) _
  have hlt : w.heap.size < w1.heap.size := by omega
  rw [← b2.block _ hlt] at h0
  have b3 := below_from b1 b2
  rw [hs] at h1
  generalize w1.alloc (.cells #[.int .i64 0, .int .i64 0, .int .i64 0, .int .i64 0] 81) = w2 at *
  have B3 := Lib.hid b3
  have H1 := Lib.hid h1
  have HL := Lib.hid (lt_of_block h1)
  have HS := Lib.hid hs
  clear b1 b2 b3 hs hlt
  obtain ⟨b0, hb0⟩ : ∃ z, z = w.heap.size := ⟨_, rfl⟩
  rw [← hb0] at h0 h1 H1 HL ⊢
  have HB := Lib.hid hb0
  clear hb0
  have d0 : w2.cell? ⟨b0, 0, none⟩ = some (.int .i64 L) := cell_at h0
  have d1 : w2.cell? ⟨b0, 1, none⟩ = some (.int .i64 W) := cell_at h0
  have d2 : w2.cell? ⟨b0, 2, none⟩ = some (.int .i64 B) := cell_at h0
  clear h0 h1
  go_still_tail 16, (by kernel_rfl)
  still_call ((C1.out _).mono fun _ _ h => ⟨h.1, h.2.symm⟩)
  repeat still_step
  refine wpStill_nil ?_
  change wpList _ _ _ _ _ w2.drew
  refine wpList_store_row rfl _ _ _ rfl (b0 + 1) _ rfl rfl _ _ H1.out (by kernel_rfl) rfl (by simp [Value.oneCell']) ?_
  go_wp2
  (try simp only [Exit.inBlock, Exit.then])
  refine bodyPost_ret (results_cell_row rfl _ _ (b0 + 1) _ _ (0, 0) _ rfl (setRow_heap w2.drew (b0 + 1) _ _ _ _ H1.out) Tryz.underlying81 rfl (by kernel_rfl)) rfl ?_
  exact ⟨rfl, below_setRow (below_draws B3.out 1) (by have := HB.out; omega) _⟩
end Go.Proofs.YtbgcpljekcagiaaGreat
/- The contracts of layer 9 (cell): Take. -/
namespace Go.Proofs.YtbgcpljekcagiaaGreat
set_option linter.unusedSimpArgs false
set_option linter.unusedVariables false
set_option maxRecDepth 100000
open Go.ChangeShapes Go.WideShapes Go.ChangeAt Go.RowKit
open Ar (inR)

/-- a cell in its block. -/
def CellAt (w : World) (b : Nat) (F S C D : Int) : Prop := w.heap[b]? = some (.cells #[.int .i64 F, .int .i64 S, .int .i64 C, .int .i64 D] 64 (0, 0))
theorem CellAt.lt {w : World} {b : Nat} {F S C D : Int} (h : CellAt w b F S C D) : b < w.heap.size := lt_of_block h
theorem CellAt.below {W w : World} {b : Nat} {F S C D : Int} (h : CellAt W b F S C D) (hb : Below W.heap.size W w) : CellAt w b F S C D := by
  unfold CellAt; rw [hb.block b h.lt]; exact h
theorem box_at (w : World) (U W B L : Int) : ∃ w1, w.alloc (.cells #[.int .i64 U, .int .i64 W, .int .i64 B, .int .i64 L] 81) = w1 ∧ w1.heap[w.heap.size]? = some (.cells #[.int .i64 U, .int .i64 W, .int .i64 B, .int .i64 L] 81 (0, 0)) ∧ Below w.heap.size w w1 :=
  ⟨_, rfl, heap_alloc_new w _, (Below.refl _ _).alloc (Nat.le_refl _) _⟩
set_option maxHeartbeats 1000000 in
set_option maxRecDepth 100000 in
theorem take_no (F S C D U W B L now cost : Int) (hS : inR S) (hC : inR C) (hD : inR D) (hU : 1 ≤ U ∧ U ≤ 9223372036854775807) (hW : inR W) (hB : inR B) (hL : inR L) (hnow : inR now)
    (hn : inR (-clamp (C + D))) (hd : inR (clamp (now + clamp (B * U)) - max F now)) (g : 1 ≤ cost) (hno : roomZ F S C D U W B L now < cost) (w : World) (bc : Nat) (hc : CellAt w bc F S C D) :
    Calls Tryz.prog 101 #[.pointer (some ⟨bc, 0, none⟩), pv U W B L, .int .i64 now, .int .i64 cost] w fun e w' => e = .returned (.bool false) ∧ Below w.heap.size w w' := by
  have c1 := fun w => room_any F S C D U W B L now hS hC hD hU hW hB hL hnow hn hd w
  obtain ⟨r, hr⟩ : ∃ z, z = roomZ F S C D U W B L now := ⟨_, rfl⟩
  rw [← hr] at c1 hno
  have C1 := Lib.hid c1
  have HC := Lib.hid hc
  have g2 : r < cost := by omega
  have t1 : decide (cost < 1) = false := by rw [decide_eq_false_iff_not]; omega
  have t2 : decide (r < cost) = true := by rw [decide_eq_true_eq]; omega
  clear c1 hr hS hC hD hW hB hL hnow hn hd hc hno g g2
  go_enter Tryz.func101, Tryz.ntmps101
  go_upto_region 1 with (fail)
  obtain ⟨w1, hw1, h1, b1⟩ := box_at w U W B L
  rw [hw1]
  have hcc := cell_at (i := 0) (HC.out.below b1)
  have k0 : w1.drew.cell? ⟨bc, 0, none⟩ = some (.int .i64 F) := cell_at (HC.out.below b1)
  have k1 : w1.drew.cell? ⟨bc, 1, none⟩ = some (.int .i64 S) := cell_at (HC.out.below b1)
  have k2 : w1.drew.cell? ⟨bc, 2, none⟩ = some (.int .i64 C) := cell_at (HC.out.below b1)
  have k3 : w1.drew.cell? ⟨bc, 3, none⟩ = some (.int .i64 D) := cell_at (HC.out.below b1)
  have p0 : w1.drew.cell? ⟨w.heap.size, 0, none⟩ = some (.int .i64 U) := cell_at h1
  have p1 : w1.drew.cell? ⟨w.heap.size, 1, none⟩ = some (.int .i64 W) := cell_at h1
  have p2 : w1.drew.cell? ⟨w.heap.size, 2, none⟩ = some (.int .i64 B) := cell_at h1
  have p3 : w1.drew.cell? ⟨w.heap.size, 3, none⟩ = some (.int .i64 L) := cell_at h1
  have B1 := Lib.hid b1
  clear b1 h1 hw1 hcc HC
  have pb : Below w1.heap.size w1 w1.drew := below_draws (Below.refl _ _) 1
  have D1 := Lib.hid (fun w' hb => (Calls.heldC (W2 := w1) C1.out w' hb).mono (fun e w'' (h : _ ∧ Below w1.heap.size w1 w'') => (⟨h.1, cell_kept h.2 k0, cell_kept h.2 k1, cell_kept h.2 k2, cell_kept h.2 k3, cell_kept h.2 p0, cell_kept h.2 p1, cell_kept h.2 p2, cell_kept h.2 p3, h.2⟩ : e = _ ∧ w''.cell? ⟨bc, 0, none⟩ = some (.int .i64 F) ∧ w''.cell? ⟨bc, 1, none⟩ = some (.int .i64 S) ∧ w''.cell? ⟨bc, 2, none⟩ = some (.int .i64 C) ∧ w''.cell? ⟨bc, 3, none⟩ = some (.int .i64 D) ∧ w''.cell? ⟨w.heap.size, 0, none⟩ = some (.int .i64 U) ∧ w''.cell? ⟨w.heap.size, 1, none⟩ = some (.int .i64 W) ∧ w''.cell? ⟨w.heap.size, 2, none⟩ = some (.int .i64 B) ∧ w''.cell? ⟨w.heap.size, 3, none⟩ = some (.int .i64 L) ∧ Below w1.heap.size w1 w'')))
  go_region_held3 (fun w' => w'.cell? ⟨bc, 0, none⟩ = some (.int .i64 F) ∧ w'.cell? ⟨bc, 1, none⟩ = some (.int .i64 S) ∧ w'.cell? ⟨bc, 2, none⟩ = some (.int .i64 C) ∧ w'.cell? ⟨bc, 3, none⟩ = some (.int .i64 D) ∧ w'.cell? ⟨w.heap.size, 0, none⟩ = some (.int .i64 U) ∧ w'.cell? ⟨w.heap.size, 1, none⟩ = some (.int .i64 W) ∧ w'.cell? ⟨w.heap.size, 2, none⟩ = some (.int .i64 B) ∧ w'.cell? ⟨w.heap.size, 3, none⟩ = some (.int .i64 L) ∧ Below w1.heap.size w1 w') (first | (refine ⟨?_, ?_, ?_, ?_, ?_, ?_, ?_, ?_, ?_⟩ <;> assumption) | go_keep)
    (first | (go_at_call 45; ((with_reducible refine (D1.out _ (by assumption)).mono ?_); rintro e w' ⟨rfl, z0, z1, z2, z3, z4, z5, z6, z7, z⟩)))
  go_wp2
  go_ret
  exact ⟨rfl, below_from B1.out (by assumption)⟩
set_option maxHeartbeats 1000000 in
set_option maxRecDepth 100000 in
theorem take_yes (F S C D U W B L now cost : Int) (hS : inR S) (hC : inR C) (hD : inR D) (hU : 1 ≤ U ∧ U ≤ 9223372036854775807) (hW : inR W) (hB : inR B) (hL : inR L) (hnow : inR now)
    (hn : inR (-clamp (C + D))) (hd : inR (clamp (now + clamp (B * U)) - max F now)) (hF : inR F) (hcost : inR cost) (hDc : inR (D + cost)) (hno : 1 ≤ cost ∧ cost ≤ roomZ F S C D U W B L now) (w : World) (bc : Nat) (hc : CellAt w bc F S C D) :
    Calls Tryz.prog 101 #[.pointer (some ⟨bc, 0, none⟩), pv U W B L, .int .i64 now, .int .i64 cost] w fun e w' => e = .returned (.bool true) ∧ CellAt w' bc (clamp (max F now + clamp (cost * U))) S C (D + cost) ∧ Fr (fun k => k = bc) w w' := by
  have c1 := fun w => room_any F S C D U W B L now hS hC hD hU hW hB hL hnow hn hd w
  obtain ⟨r, hr⟩ : ∃ z, z = roomZ F S C D U W B L now := ⟨_, rfl⟩
  rw [← hr] at c1 hno
  have C1 := Lib.hid c1
  have HC := Lib.hid hc
  have c2 := fun w => product_any cost U hcost (by unfold inR; omega) w
  obtain ⟨q, hq⟩ : ∃ z, z = clamp (cost * U) := ⟨_, rfl⟩
  rw [← hq] at c2 ⊢
  have e1 : (if F < now then now else F) = max F now := max_if _ _
  have c3 := fun w => sum_any (if F < now then now else F) q (by split <;> assumption) (by rw [hq]; exact clamp_inR _) w
  rw [e1] at c3
  obtain ⟨F', hF'⟩ : ∃ z, z = clamp (max F now + q) := ⟨_, rfl⟩
  rw [← hF'] at c3 ⊢
  rw [← e1] at c3
  have e2 : IntKind.i64.wrap (D + cost) = D + cost := by rw [IntKind.wrap_i64]; unfold inR at hDc; omega
  have hdc : -9223372036854775808 ≤ D + cost ∧ D + cost ≤ 9223372036854775807 := hDc
  have t1 : decide (cost < 1) = false := by rw [decide_eq_false_iff_not]; omega
  have t2 : decide (r < cost) = false := by rw [decide_eq_false_iff_not]; omega
  have C2 := Lib.hid c2
  have C3 := Lib.hid c3
  have HDC := Lib.hid hdc
  clear e1 hF' hdc
  clear c1 c2 c3 hr hS hC hD hW hB hL hnow hn hd hc hno hq hcost hF hDc
  go_enter Tryz.func101, Tryz.ntmps101
  go_upto_region 1 with (fail)
  obtain ⟨w1, hw1, h1, b1⟩ := box_at w U W B L
  rw [hw1]
  have hcc := cell_at (i := 0) (HC.out.below b1)
  have k0 : w1.drew.cell? ⟨bc, 0, none⟩ = some (.int .i64 F) := cell_at (HC.out.below b1)
  have k1 : w1.drew.cell? ⟨bc, 1, none⟩ = some (.int .i64 S) := cell_at (HC.out.below b1)
  have k2 : w1.drew.cell? ⟨bc, 2, none⟩ = some (.int .i64 C) := cell_at (HC.out.below b1)
  have k3 : w1.drew.cell? ⟨bc, 3, none⟩ = some (.int .i64 D) := cell_at (HC.out.below b1)
  have p0 : w1.drew.cell? ⟨w.heap.size, 0, none⟩ = some (.int .i64 U) := cell_at h1
  have p1 : w1.drew.cell? ⟨w.heap.size, 1, none⟩ = some (.int .i64 W) := cell_at h1
  have p2 : w1.drew.cell? ⟨w.heap.size, 2, none⟩ = some (.int .i64 B) := cell_at h1
  have p3 : w1.drew.cell? ⟨w.heap.size, 3, none⟩ = some (.int .i64 L) := cell_at h1
  have B1 := Lib.hid b1
  have HC1 := Lib.hid (HC.out.below b1)
  clear b1 h1 hw1 hcc
  have pb : Below w1.heap.size w1 w1.drew := below_draws (Below.refl _ _) 1
  have D1 := Lib.hid (fun w' hb => (Calls.heldC (W2 := w1) C1.out w' hb).mono (fun e w'' (h : _ ∧ Below w1.heap.size w1 w'') => (⟨h.1, cell_kept h.2 k0, cell_kept h.2 k1, cell_kept h.2 k2, cell_kept h.2 k3, cell_kept h.2 p0, cell_kept h.2 p1, cell_kept h.2 p2, cell_kept h.2 p3, h.2⟩ : e = _ ∧ w''.cell? ⟨bc, 0, none⟩ = some (.int .i64 F) ∧ w''.cell? ⟨bc, 1, none⟩ = some (.int .i64 S) ∧ w''.cell? ⟨bc, 2, none⟩ = some (.int .i64 C) ∧ w''.cell? ⟨bc, 3, none⟩ = some (.int .i64 D) ∧ w''.cell? ⟨w.heap.size, 0, none⟩ = some (.int .i64 U) ∧ w''.cell? ⟨w.heap.size, 1, none⟩ = some (.int .i64 W) ∧ w''.cell? ⟨w.heap.size, 2, none⟩ = some (.int .i64 B) ∧ w''.cell? ⟨w.heap.size, 3, none⟩ = some (.int .i64 L) ∧ Below w1.heap.size w1 w'')))
  go_region_held3 (fun w' => w'.cell? ⟨bc, 0, none⟩ = some (.int .i64 F) ∧ w'.cell? ⟨bc, 1, none⟩ = some (.int .i64 S) ∧ w'.cell? ⟨bc, 2, none⟩ = some (.int .i64 C) ∧ w'.cell? ⟨bc, 3, none⟩ = some (.int .i64 D) ∧ w'.cell? ⟨w.heap.size, 0, none⟩ = some (.int .i64 U) ∧ w'.cell? ⟨w.heap.size, 1, none⟩ = some (.int .i64 W) ∧ w'.cell? ⟨w.heap.size, 2, none⟩ = some (.int .i64 B) ∧ w'.cell? ⟨w.heap.size, 3, none⟩ = some (.int .i64 L) ∧ Below w1.heap.size w1 w') (first | (refine ⟨?_, ?_, ?_, ?_, ?_, ?_, ?_, ?_, ?_⟩ <;> assumption) | go_keep)
    (first | (go_at_call 45; ((with_reducible refine (D1.out _ (by assumption)).mono ?_); rintro e w' ⟨rfl, z0, z1, z2, z3, z4, z5, z6, z7, z⟩)))
  go_upto_region 3 with (fail)
  have hcw := HC1.out.below z
  have HCW := Lib.hid hcw
  have BW := Lib.hid (below_from B1.out z)
  have HL := Lib.hid HC.out.lt
  generalize hb5 : w.heap.size = b5 at *
  clear k0 k1 k2 k3 p0 p1 p2 p3 pb D1 hcw t1 t2 HC HC1 C1 B1 z z1 z2 z5 z6 z7
  go_still_tail 14, (by kernel_rfl)
  still_call ((C2.out _).mono fun _ _ h => ⟨h.1, h.2.symm⟩)
  repeat still_step
  still_call ((C3.out _).mono fun _ _ h => ⟨h.1, h.2.symm⟩)
  repeat still_step
  refine wpStill_nil ?_
  change wpList _ _ _ _ _ w'.drew
  have s0 : w'.drew.cell? ⟨bc, 0, none⟩ = some (.int .i64 F) := cell_at HCW.out
  have s1 : w'.drew.frozen? ⟨bc, 0, none⟩ = false := free_at HCW.out
  clear z0 z3 z4
  go_upto_region 4 with (fail)
  have so : (w'.setCell ⟨bc, 0, none⟩ (.int .i64 F')) = setObj w' bc (.cells #[.int .i64 F', .int .i64 S, .int .i64 C, .int .i64 D] 64 (0, 0)) := setCell_obj HCW.out _
  rw [so]
  have hlt : bc < w'.heap.size := lt_of_block HCW.out
  have hx : (setObj w' bc (.cells #[.int .i64 F', .int .i64 S, .int .i64 C, .int .i64 D] 64 (0, 0))).drew.heap[bc]? = some (.cells #[.int .i64 F', .int .i64 S, .int .i64 C, .int .i64 D] 64 (0, 0)) := setObj_at hlt _
  have hf : Fr (fun k => k = bc) w (setObj w' bc (.cells #[.int .i64 F', .int .i64 S, .int .i64 C, .int .i64 D] 64 (0, 0))).drew := Fr.drew (Fr.setObj (F := fun k => k = bc) (b := bc) (Fr.of_below (by rw [hb5]; exact BW.out)) rfl _)
  generalize (setObj w' bc (.cells #[.int .i64 F', .int .i64 S, .int .i64 C, .int .i64 D] 64 (0, 0))).drew = wx at hx hf ⊢
  have s3 : wx.cell? ⟨bc, 3, none⟩ = some (.int .i64 D) := cell_at hx
  have s4 : wx.frozen? ⟨bc, 3, none⟩ = false := free_at hx
  have HX := Lib.hid hx
  have HF := Lib.hid hf
  clear hx hf so hlt s0 s1
  go_wp2
  all_goals
    go_ret
    refine ⟨rfl, ?_, ?_⟩
    · rw [setCell_obj HX.out]
      exact setObj_at (lt_of_block HX.out) _
    · rw [setCell_obj HX.out]
      exact Fr.setObj (F := fun k => k = bc) (b := bc) HF.out rfl _
end Go.Proofs.YtbgcpljekcagiaaGreat
/- The contracts of layer 9 (cell): Take of a cost below 1. -/
namespace Go.Proofs.YtbgcpljekcagiaaGreat
set_option linter.unusedSimpArgs false
set_option linter.unusedVariables false
set_option maxRecDepth 100000
open Go.ChangeShapes Go.WideShapes Go.ChangeAt Go.RowKit
open Ar (inR)
end Go.Proofs.YtbgcpljekcagiaaGreat
/- Cells of small plans, and whatever a ring carries over (XCellR and XCellG with wider bounds; made of them once by hand). -/
namespace Go.Proofs.YtbgcpljekcagiaaGreat
set_option linter.unusedSimpArgs false
set_option linter.unusedVariables false
set_option maxRecDepth 100000
open Go.ChangeShapes Go.WideShapes Go.ChangeAt Go.RowKit
open Ar (inR)
theorem le_tdiv {U k x : Int} (hU : 1 ≤ U) (hk : 1 ≤ k) : k ≤ x.tdiv U ↔ k * U ≤ x := by
  rcases Int.lt_or_le x 0 with hx | hx
  · have h1 : x.tdiv U ≤ 0 := by
      have : 0 ≤ (-x).tdiv U := Int.tdiv_nonneg (by omega) (by omega)
      rw [Int.neg_tdiv] at this
      omega
    have h2 : 0 ≤ k * U := Int.mul_nonneg (by omega) (by omega)
    constructor <;> intro h <;> omega
  · rw [Int.tdiv_eq_ediv_of_nonneg hx]
    exact Int.le_ediv_iff_mul_le (by omega)
structure Rng (F S C D U W B L t : Int) : Prop where
  F : 0 ≤ F ∧ F ≤ 6917529027641081856
  S : 0 ≤ S ∧ S ≤ 4611686018427387904
  C : 0 ≤ C ∧ C ≤ 4611686018427387904
  D : 0 ≤ D ∧ D ≤ 1152921504606846976
  U : 1 ≤ U ∧ U ≤ 1048576
  W : 1 ≤ W ∧ W ≤ 1048576
  B : 1 ≤ B ∧ B ≤ 1048576
  L : 1 ≤ L ∧ L ≤ 1048576
  t : 0 ≤ t ∧ t ≤ 4611686018427387904
/-- how much conforms, the carry aside. -/
def baseP (F U B t : Int) : Int := max 0 (min ((t + B * U - max F t).tdiv U) B)
def restP (C D L : Int) : Int := max 0 (L - (C + D))
def roomP (F S C D U W B L t : Int) : Int := if t < S + W then min (baseP F U B t) (restP C D L) else baseP F U B t
def waitP (F S C D U W B L t cost : Int) : Int := (if max t (F - (B - cost) * U) < S + W ∧ restP C D L < cost then S + W else max t (F - (B - cost) * U)) - t
theorem base_iff {F U B t k : Int} (hU : 1 ≤ U) (hk : 1 ≤ k) : k ≤ baseP F U B t ↔ k ≤ B ∧ k * U + max F t ≤ t + B * U := by
  have h := le_tdiv (x := t + B * U - max F t) hU hk
  unfold baseP
  generalize (t + B * U - max F t).tdiv U = q at *
  generalize k * U = ku at *
  generalize B * U = bu at *
  constructor
  · intro g; have : k ≤ q := by omega
    have := h.1 this; omega
  · intro g; have : k ≤ q := h.2 (by omega)
    omega
theorem base_lo (F U B t : Int) : 0 ≤ baseP F U B t := by unfold baseP; omega
theorem base_hi {F U B t : Int} (hB : 0 ≤ B) : baseP F U B t ≤ B := by unfold baseP; omega
theorem room_hi {F S C D U W B L t : Int} (hB : 0 ≤ B) : roomP F S C D U W B L t ≤ B := by
  have := base_hi (F := F) (U := U) (t := t) hB; unfold roomP; split <;> omega
section
variable {F S C D U W B L t : Int}
theorem Rng.bu (h : Rng F S C D U W B L t) : 0 ≤ B * U ∧ B * U ≤ 1099511627776 :=
  ⟨Int.mul_nonneg (by have := h.B; omega) (by have := h.U; omega), Int.mul_le_mul h.B.2 h.U.2 (by have := h.U; omega) (by omega)⟩
theorem Rng.clamps (h : Rng F S C D U W B L t) : roomZ F S C D U W B L t = roomP F S C D U W B L t ∧ inR (clamp (t + clamp (B * U)) - max F t) ∧ inR (-clamp (C + D)) ∧ clamp (S + W) = S + W ∧ restZ C D L = restP C D L := by
  have hb := h.bu
  obtain ⟨hF, hS, hC, hD, hU, hW, hB, hL, ht⟩ := h
  have e5 : clamp (S + W) = S + W := clamp_in (by unfold inR; omega)
  have e6 : clamp (C + D) = C + D := clamp_in (by unfold inR; omega)
  have e7 : clamp (L + -(C + D)) = L - (C + D) := by rw [← Int.sub_eq_add_neg]; exact clamp_in (by unfold inR; omega)
  unfold roomZ roomP restZ baseP restP
  generalize B * U = bu at *
  have e1 : clamp bu = bu := clamp_in (by unfold inR; omega)
  have e2 : clamp (t + bu) = t + bu := clamp_in (by unfold inR; omega)
  rw [e1, e2, e5, e6, e7]
  exact ⟨rfl, by unfold inR; omega, by unfold inR; omega, rfl, rfl⟩
theorem room_rng (h : Rng F S C D U W B L t) (w : World) :
    Calls Tryz.prog 45 #[cv F S C D, pv U W B L, .int .i64 t] w fun e w' => e = .returned (.int .i64 (roomP F S C D U W B L t)) ∧ Below w.heap.size w w' := by
  obtain ⟨h1, h2, h3, _, _⟩ := h.clamps
  obtain ⟨hF, hS, hC, hD, hU, hW, hB, hL, ht⟩ := h
  rw [← h1]
  exact room_any F S C D U W B L t (by unfold inR; omega) (by unfold inR; omega) (by unfold inR; omega) (by omega) (by unfold inR; omega) (by unfold inR; omega) (by unfold inR; omega) (by unfold inR; omega) h3 h2 w
theorem Rng.kb {k : Int} (h : Rng F S C D U W B L t) (hk : 1 ≤ k ∧ k ≤ B) : 0 ≤ (B - k) * U ∧ (B - k) * U ≤ 1099511627776 ∧ (B - k) * U = B * U - k * U ∧ 1 ≤ k * U := by
  have hb := h.bu
  have h1 : 0 ≤ (B - k) * U := Int.mul_nonneg (by omega) (by have := h.U; omega)
  have h2 : (B - k) * U = B * U - k * U := Int.sub_mul _ _ _
  have h3 : 1 * U ≤ k * U := Int.mul_le_mul_of_nonneg_right hk.1 (by have := h.U; omega)
  have := h.U
  refine ⟨h1, by omega, h2, by omega⟩
theorem wait_rng {cost : Int} (h : Rng F S C D U W B L t) (hc : 1 ≤ cost ∧ cost ≤ B) (w : World) :
    Calls Tryz.prog 46 #[cv F S C D, pv U W B L, .int .i64 t, .int .i64 cost] w fun e w' => e = .returned (.int .i64 (waitP F S C D U W B L t cost)) ∧ Below w.heap.size w w' := by
  obtain ⟨h1, h2, h3, h4, h5⟩ := h.clamps
  obtain ⟨k1, k2, k3, k4⟩ := h.kb hc
  obtain ⟨hF, hS, hC, hD, hU, hW, hB, hL, ht⟩ := h
  have e : waitZ F S C D U W B L t cost = waitP F S C D U W B L t cost := by unfold waitZ waitP; rw [h4, h5]
  rw [← e]
  refine wait_any F S C D U W B L t cost (by unfold inR; omega) (by unfold inR; omega) (by unfold inR; omega) (by unfold inR; omega) (by unfold inR; omega) (by unfold inR; omega) h3 (by unfold inR; omega) (by unfold inR; omega) (by unfold inR; omega) ?_ w
  rw [e]; unfold waitP inR
  generalize (B - cost) * U = v at *
  generalize cost * U = cu at *
  generalize B * U = bu at *
  split <;> omega
/-- what a taken cost leaves. -/
theorem take_leaves {cost : Int} (h : Rng F S C D U W B L t) (hc : 1 ≤ cost ∧ cost ≤ roomP F S C D U W B L t) :
    max F t + cost * U ≤ t + B * U ∧ roomP (max F t + cost * U) S C (D + cost) U W B L t ≤ roomP F S C D U W B L t - cost := by
  have hU := h.U.1
  have hb : cost ≤ baseP F U B t := by have := hc.2; unfold roomP at this; split at this <;> omega
  have h1 := (base_iff hU hc.1).1 hb
  refine ⟨by omega, ?_⟩
  have h2 : baseP (max F t + cost * U) U B t ≤ baseP F U B t - cost := by
    rcases Int.lt_or_le (baseP (max F t + cost * U) U B t) 1 with g | g
    · omega
    · obtain ⟨k, hk⟩ : ∃ k, k = baseP (max F t + cost * U) U B t := ⟨_, rfl⟩
      rw [← hk] at g ⊢
      have h3 := (base_iff hU g).1 (Int.le_of_eq hk)
      have h4 : (k + cost) * U = k * U + cost * U := Int.add_mul _ _ _
      have hlt : k + cost ≤ B := by
        rcases Int.lt_or_le B (k + cost) with hg | hg
        · have : (B + 1) * U ≤ (k + cost) * U := Int.mul_le_mul_of_nonneg_right (by omega) (by omega)
          have h5 : (B + 1) * U = B * U + U := by rw [Int.add_mul, Int.one_mul]
          omega
        · exact hg
      have := (base_iff (F := F) (t := t) (B := B) hU (show 1 ≤ k + cost by omega)).2 ⟨hlt, by omega⟩
      omega
  have hc2 := hc.2
  unfold roomP restP at *
  split <;> split at hc2 <;> omega
end
/-- no more than this was let through in the window that ends now. -/
def boundP (F S D U W L t : Int) : Int := min (if t < S + W then D else max 0 ((F - (t - W)).tdiv U)) L
section
variable {F S C D U W B L t : Int}
theorem young_rng (h : Rng F S C D U W B L t) (w : World) :
    Calls Tryz.prog 86 #[cv F S C D, pv U W B L, .int .i64 t] w fun e w' => e = .returned (.bool (decide (t < S + W))) ∧ Below w.heap.size w w' := by
  obtain ⟨_, _, _, h4, _⟩ := h.clamps
  obtain ⟨hF, hS, hC, hD, hU, hW, hB, hL, ht⟩ := h
  have := young_any F S C D U W B L t (by unfold inR; omega) (by unfold inR; omega) w
  rw [h4] at this
  exact this
set_option maxHeartbeats 1000000 in
theorem bound_rng (h : Rng F S C D U W B L t) (w : World) :
    Calls Tryz.prog 130 #[cv F S C D, pv U W B L, .int .i64 t] w fun e w' => e = .returned (.int .i64 (boundP F S D U W L t)) ∧ Below w.heap.size w w' := by
  have c4 := fun w => young_rng h w
  obtain ⟨hF, hS, hC, hD, hU, hW, hB, hL, ht⟩ := h
  have e1 : IntKind.i64.wrap (t - W) = t - W := by rw [IntKind.wrap_i64]; omega
  have e2 : IntKind.i64.wrap (F - (t - W)) = F - (t - W) := by rw [IntKind.wrap_i64]; omega
  have c3 := fun w => by_any (F - (t - W)) U W B L (by unfold inR; omega) (by omega) w
  obtain ⟨s, hs⟩ : ∃ s, s = t - W := ⟨_, rfl⟩
  rw [← hs] at e1 e2 c3
  obtain ⟨d, hd⟩ : ∃ d, d = F - s := ⟨_, rfl⟩
  rw [← hd] at e2 c3
  obtain ⟨q, hq⟩ : ∃ q, q = d.tdiv U := ⟨_, rfl⟩
  rw [← hq] at c3
  obtain ⟨y, hy⟩ : ∃ y, y = decide (t < S + W) := ⟨_, rfl⟩
  rw [← hy] at c4
  have e : boundP F S D U W L t = min (if y = true then D else max 0 q) L := by
    unfold boundP; rw [hq, hd, hs, hy]; by_cases g : t < S + W <;> simp [g]
  rw [e]
  have hbt : -9223372036854775808 ≤ t - W ∧ t - W ≤ 9223372036854775807 := by omega
  have C3 := Lib.hid c3
  have C4 := Lib.hid c4
  clear c3 c4 e hq hF hS hC hD hU hW hB hL ht hbt
  have EY := Lib.hid hy
  clear hy
  cases y
  all_goals
    have E1 := Lib.hid e1
    have E2 := Lib.hid e2
    have HS := Lib.hid hs
    have HD := Lib.hid hd
    clear e1 e2 hs hd
    go_enter Tryz.func130, Tryz.ntmps130
    go_upto_region 2 with (fail)
    obtain ⟨f0, f1, f2, f3, f4, f5, f6, f7, fb⟩ := boxes_at w F S C D U W B L
    unfold boxes at *
    generalize (w.alloc (.cells #[.int .i64 F, .int .i64 S, .int .i64 C, .int .i64 D] 64)).alloc (.cells #[.int .i64 U, .int .i64 W, .int .i64 B, .int .i64 L] 81) = w2 at *
    have FB := Lib.hid fb
    have Z := Lib.hid (Below.refl w2.heap.size w2)
    clear fb
    generalize w.heap.size = b0 at f0 f1 f2 f3 f4 f5 f6 f7 ⊢
    have F0 := Lib.hid f0
    have F1 := Lib.hid f1
    have F2 := Lib.hid f2
    have F3 := Lib.hid f3
    have F4 := Lib.hid f4
    have F5 := Lib.hid f5
    have F6 := Lib.hid f6
    have F7 := Lib.hid f7
    have e1 := E1.out
    have e2 := E2.out
    have ew : t - W = s := HS.out.symm
    have ed : F - s = d := HD.out.symm
    go_wp2_with (first
      | (go_at_call 86; ((with_reducible refine (Calls.heldC C4.out _ Z.out).mono ?_); rintro e w3 ⟨rfl, y⟩; have g0 := cell_kept y F0.out; have g1 := cell_kept y F1.out; have g2 := cell_kept y F2.out; have g3 := cell_kept y F3.out; have g4 := cell_kept y F4.out; have g5 := cell_kept y F5.out; have g6 := cell_kept y F6.out; have g7 := cell_kept y F7.out; have Y := Lib.hid y; clear y))
      | (go_at_call 85; ((with_reducible refine (Calls.heldC C3.out _ Y.out).mono ?_); rintro e w4 ⟨rfl, y⟩; have k0 := cell_kept y F0.out; have k7 := cell_kept y F7.out; have Y2 := Lib.hid y; clear y)))
    all_goals
      go_ret
      first
        | exact ⟨ret_i (by simp only [Int.min_def, Int.max_def]; (repeat' split) <;> simp_all <;> omega), below_from FB.out Y2.out⟩
        | exact ⟨ret_i (by simp only [Int.min_def, Int.max_def]; (repeat' split) <;> simp_all <;> omega), below_from FB.out Y.out⟩
end
end Go.Proofs.YtbgcpljekcagiaaGreat
/- Cells: waits, shifts, units: plain mathematics (XCellW's, XCellI's, XCellM's, on XCellV). -/
namespace Go.Proofs.YtbgcpljekcagiaaGreat
set_option linter.unusedSimpArgs false
set_option linter.unusedVariables false
set_option maxRecDepth 100000
open Go.ChangeShapes Go.WideShapes Go.ChangeAt Go.RowKit
open Ar (inR)
section
variable {F S C D U W B L t cost : Int}
theorem cunit_facts {W n : Int} (hW : 1 ≤ W) (hn : 1 ≤ n) : 1 ≤ unitZ W n ∧ unitZ W n ≤ W ∧ W ≤ unitZ W n * n ∧ (unitZ W n - 1) * n < W := by
  have h1 := Int.mul_ediv_add_emod W n
  have h2 := Int.emod_nonneg W (by omega : n ≠ 0)
  have h3 := Int.emod_lt_of_pos W (by omega : 0 < n)
  have h4 := Int.ediv_le_self n (by omega : 0 ≤ W)
  have h5 := Int.ediv_nonneg (by omega : 0 ≤ W) (by omega : 0 ≤ n)
  have e : unitZ W n = if W % n = 0 then W / n else W / n + 1 := by unfold unitZ; rw [if_neg (by omega)]
  rw [e]
  generalize W / n = q at *
  generalize W % n = r at *
  have hq : q ≤ n * q := by
    have := Int.mul_le_mul_of_nonneg_right hn h5
    omega
  split
  · have k1 : q * n = n * q := Int.mul_comm _ _
    have k2 : (q - 1) * n = n * q - n := by rw [Int.sub_mul, Int.one_mul, k1]
    have k3 : q ≠ 0 := by intro h; subst h; omega
    refine ⟨by omega, by omega, by omega, by omega⟩
  · have k1 : (q + 1) * n = n * q + n := by rw [Int.add_mul, Int.one_mul, Int.mul_comm]
    have k2 : (q + 1 - 1) * n = n * q := by rw [Int.add_sub_cancel, Int.mul_comm]
    refine ⟨by omega, by omega, by omega, by omega⟩
end
end Go.Proofs.YtbgcpljekcagiaaGreat
/- The law LimiterLimit of layer 12 (limiter): the plain side of one key's cell: what it let through, and what it owes when it goes. -/
namespace Go.Proofs.YtbgcpljekcagiaaGreat
set_option linter.unusedSimpArgs false
set_option linter.unusedVariables false
set_option maxRecDepth 100000
open Go.ChangeShapes Go.WideShapes Go.ChangeAt Go.RowKit
open Ar (inR)
/-- all that was let through. -/
def tsum : List (Int × Int) → Int
  | [] => 0
  | x :: r => x.2 + tsum r
theorem tsum_snoc (x : Int × Int) : ∀ l, tsum (l ++ [x]) = tsum l + x.2
  | [] => by simp [tsum]
  | y :: r => by rw [List.cons_append, tsum, tsum, tsum_snoc x r]; omega
theorem sumGt_app (T : Int) (m : List (Int × Int)) : ∀ l, sumGt T (l ++ m) = sumGt T l + sumGt T m
  | [] => by simp [sumGt]
  | y :: r => by rw [List.cons_append, sumGt, sumGt, sumGt_app T m r]; omega
theorem sumGt_le_tsum (T : Int) : ∀ l, small l → sumGt T l ≤ tsum l
  | [], _ => Int.le_refl _
  | x :: r, h => by
    have h1 := h x List.mem_cons_self
    have h2 := sumGt_le_tsum T r (fun y hy => h y (List.mem_cons_of_mem _ hy))
    rw [sumGt, tsum]
    split <;> omega
theorem sumGt_anti {T T' : Int} (hT : T ≤ T') : ∀ l, small l → sumGt T' l ≤ sumGt T l
  | [], _ => Int.le_refl _
  | x :: r, h => by
    have h1 := h x List.mem_cons_self
    have h2 := sumGt_anti hT r (fun y hy => h y (List.mem_cons_of_mem _ hy))
    rw [sumGt, sumGt]
    by_cases g : T' < x.1
    · rw [if_pos g, if_pos (by omega)]; omega
    · rw [if_neg g]; split <;> omega
theorem small_app {l m : List (Int × Int)} (h : small l) (h' : small m) : small (l ++ m) := fun x hx => (List.mem_append.1 hx).elim (h x) (h' x)
/-- a cell of a key: what the key was let through before it (O), and by it (T). -/
structure CelL (F S C D U W B L span t : Int) (O T : List (Int × Int)) : Prop where
  tk : Taken F t U T
  so : small O
  fF : F ≤ t + B * U
  fS : S ≤ t
  fD : tsum T = D
  fO : ∀ x ∈ O, x.1 ≤ S
  fC : sumGt (S - span) O ≤ C
  fY : t < S + W → D = 0 ∨ C + D ≤ L
section
variable {F S C D U W B L span t t' cost : Int} {O T : List (Int × Int)}
/-- a new cell. -/
theorem CelL.new (hso : small O) (hB : 0 ≤ B * U) (hO : ∀ x ∈ O, x.1 ≤ t) (hC : sumGt (t - span) O ≤ C) : CelL t t C 0 U W B L span t O [] :=
  ⟨taken_nil _ _ _, hso, by omega, Int.le_refl _, rfl, hO, hC, fun _ => Or.inl rfl⟩
theorem CelL.later (h : CelL F S C D U W B L span t O T) (ht : t ≤ t') : CelL F S C D U W B L span t' O T :=
  ⟨h.tk.later ht, h.so, by have := h.fF; omega, by have := h.fS; omega, h.fD, h.fO, h.fC, fun g => h.fY (by omega)⟩
/-- a cost is let through: no more than the limit in the window. -/
theorem CelL.take (h : CelL F S C D U W B L span t O T) (hU : 1 ≤ U) (hB : B ≤ 32) (hL : 0 ≤ L) (hW : W ≤ U * (L + 1 - B)) (hsp : span ≤ W) (hc : 1 ≤ cost) (hr : cost ≤ roomP F S C D U W B L t) :
    CelL (max F t + cost * U) S C (D + cost) U W B L span t O (T ++ [(t, cost)]) ∧ sumGt (t - span) (O ++ (T ++ [(t, cost)])) ≤ L := by
  have hb : cost ≤ baseP F U B t := by unfold roomP at hr; split at hr <;> omega
  have hbi := (base_iff hU hc).1 hb
  have h1 := h.tk.take hU (c := cost) ⟨hc, by omega⟩ (Int.le_refl t)
  have hD : tsum (T ++ [(t, cost)]) = D + cost := by rw [tsum_snoc, h.fD]
  have hyoung : t < S + W → C + (D + cost) ≤ L := by
    intro g
    unfold roomP restP at hr
    rw [if_pos g] at hr
    omega
  refine ⟨⟨h1, h.so, by omega, h.fS, hD, h.fO, h.fC, fun g => Or.inr (hyoung g)⟩, ?_⟩
  rw [sumGt_app]
  have hS := h.fS
  by_cases g : t < S + W
  · have g1 := sumGt_anti (T := S - span) (T' := t - span) (by omega) O h.so
    have g2 := sumGt_le_tsum (t - span) (T ++ [(t, cost)]) h1.sm
    have g3 := hyoung g
    have g4 := h.fC
    omega
  · have g1 := sumGt_zero (t - span) O (fun x hx => by have := h.fO x hx; omega)
    have g2 := sumGt_anti (T := t - W) (T' := t - span) (by omega) (T ++ [(t, cost)]) h1.sm
    have g3 := h1.limit hU (B := B) (L := L) (W := W) (by omega) hW hL
    omega
/-- what a cell let through in the window isn't more than what it owes. -/
theorem CelL.bound (h : CelL F S C D U W B L span t O T) (hU : 1 ≤ U) (hL : 0 ≤ L) (hC : 0 ≤ C) (hW : W ≤ U * (L + 1 - B)) {x : Int} (hx : t - W ≤ x) : sumGt x T ≤ boundP F S D U W L t := by
  have hb := sumGt_bd x T h.tk.sm
  have g1 := sumGt_le_tsum x T h.tk.sm
  rw [h.fD] at g1
  unfold boundP
  by_cases g : t < S + W
  · rw [if_pos g]
    rcases h.fY g with g2 | g2 <;> omega
  · rw [if_neg g]
    have g2 := sumGt_anti hx T h.tk.sm
    have g3 := h.tk.limit hU (B := B) (L := L) (W := W) h.fF hW hL
    have hb2 := sumGt_bd (t - W) T h.tk.sm
    rcases Int.lt_or_le 0 (sumGt (t - W) T) with p | p
    · have g4 := h.tk.up (t - W) p
      have g5 := (le_tdiv (x := F - (t - W)) (U := U) (k := sumGt (t - W) T) hU (by omega)).2 (by omega)
      omega
    · omega
end
end Go.Proofs.YtbgcpljekcagiaaGreat
/- The contracts of layer 9 (cell): Take of a cell that lies in a row (XCellT's, with a place). -/
namespace Go.Proofs.YtbgcpljekcagiaaGreat
set_option linter.unusedSimpArgs false
set_option linter.unusedVariables false
set_option maxRecDepth 100000
open Go.ChangeShapes Go.WideShapes Go.ChangeAt Go.RowKit
open Ar (inR)
set_option maxHeartbeats 1000000 in
set_option maxRecDepth 100000 in
theorem take_no_at (F S C D U W B L now cost : Int) (hS : inR S) (hC : inR C) (hD : inR D) (hU : 1 ≤ U ∧ U ≤ 9223372036854775807) (hW : inR W) (hB : inR B) (hL : inR L) (hnow : inR now)
    (hn : inR (-clamp (C + D))) (hd : inR (clamp (now + clamp (B * U)) - max F now)) (g : 1 ≤ cost) (hno : roomZ F S C D U W B L now < cost) (w : World) (bc o : Nat) (ty : TypeId) (A : Array Value) (hc : Blk w bc ty A) (ho : A[o]? = some (.int .i64 F) ∧ A[o + 1]? = some (.int .i64 S) ∧ A[o + 2]? = some (.int .i64 C) ∧ A[o + 3]? = some (.int .i64 D)) :
    Calls Tryz.prog 101 #[.pointer (some ⟨bc, o, none⟩), pv U W B L, .int .i64 now, .int .i64 cost] w fun e w' => e = .returned (.bool false) ∧ Below w.heap.size w w' := by
  have c1 := fun w => room_any F S C D U W B L now hS hC hD hU hW hB hL hnow hn hd w
  obtain ⟨r, hr⟩ : ∃ z, z = roomZ F S C D U W B L now := ⟨_, rfl⟩
  rw [← hr] at c1 hno
  have C1 := Lib.hid c1
  have HC := Lib.hid hc
  have HO := Lib.hid ho
  have g2 : r < cost := by omega
  have t1 : decide (cost < 1) = false := by rw [decide_eq_false_iff_not]; omega
  have t2 : decide (r < cost) = true := by rw [decide_eq_true_eq]; omega
  clear c1 hr hS hC hD hW hB hL hnow hn hd hc hno g g2
  go_enter Tryz.func101, Tryz.ntmps101
  go_upto_region 1 with (fail)
  obtain ⟨w1, hw1, h1, b1⟩ := box_at w U W B L
  rw [hw1]
  have hcc := (HC.out.keep b1).rd
  have k0 : w1.drew.cell? ⟨bc, o, none⟩ = some (.int .i64 F) := (hcc (o)).trans ho.1
  have k1 : w1.drew.cell? ⟨bc, o + 1, none⟩ = some (.int .i64 S) := (hcc (o + 1)).trans ho.2.1
  have k2 : w1.drew.cell? ⟨bc, o + 2, none⟩ = some (.int .i64 C) := (hcc (o + 2)).trans ho.2.2.1
  have k3 : w1.drew.cell? ⟨bc, o + 3, none⟩ = some (.int .i64 D) := (hcc (o + 3)).trans ho.2.2.2
  have p0 : w1.drew.cell? ⟨w.heap.size, 0, none⟩ = some (.int .i64 U) := cell_at h1
  have p1 : w1.drew.cell? ⟨w.heap.size, 1, none⟩ = some (.int .i64 W) := cell_at h1
  have p2 : w1.drew.cell? ⟨w.heap.size, 2, none⟩ = some (.int .i64 B) := cell_at h1
  have p3 : w1.drew.cell? ⟨w.heap.size, 3, none⟩ = some (.int .i64 L) := cell_at h1
  have B1 := Lib.hid b1
  clear b1 h1 hw1 hcc HC ho
  have pb : Below w1.heap.size w1 w1.drew := below_draws (Below.refl _ _) 1
  have D1 := Lib.hid (fun w' hb => (Calls.heldC (W2 := w1) C1.out w' hb).mono (fun e w'' (h : _ ∧ Below w1.heap.size w1 w'') => (⟨h.1, cell_kept h.2 k0, cell_kept h.2 k1, cell_kept h.2 k2, cell_kept h.2 k3, cell_kept h.2 p0, cell_kept h.2 p1, cell_kept h.2 p2, cell_kept h.2 p3, h.2⟩ : e = _ ∧ w''.cell? ⟨bc, o, none⟩ = some (.int .i64 F) ∧ w''.cell? ⟨bc, o + 1, none⟩ = some (.int .i64 S) ∧ w''.cell? ⟨bc, o + 2, none⟩ = some (.int .i64 C) ∧ w''.cell? ⟨bc, o + 3, none⟩ = some (.int .i64 D) ∧ w''.cell? ⟨w.heap.size, 0, none⟩ = some (.int .i64 U) ∧ w''.cell? ⟨w.heap.size, 1, none⟩ = some (.int .i64 W) ∧ w''.cell? ⟨w.heap.size, 2, none⟩ = some (.int .i64 B) ∧ w''.cell? ⟨w.heap.size, 3, none⟩ = some (.int .i64 L) ∧ Below w1.heap.size w1 w'')))
  go_region_held3 (fun w' => w'.cell? ⟨bc, o, none⟩ = some (.int .i64 F) ∧ w'.cell? ⟨bc, o + 1, none⟩ = some (.int .i64 S) ∧ w'.cell? ⟨bc, o + 2, none⟩ = some (.int .i64 C) ∧ w'.cell? ⟨bc, o + 3, none⟩ = some (.int .i64 D) ∧ w'.cell? ⟨w.heap.size, 0, none⟩ = some (.int .i64 U) ∧ w'.cell? ⟨w.heap.size, 1, none⟩ = some (.int .i64 W) ∧ w'.cell? ⟨w.heap.size, 2, none⟩ = some (.int .i64 B) ∧ w'.cell? ⟨w.heap.size, 3, none⟩ = some (.int .i64 L) ∧ Below w1.heap.size w1 w') (first | (refine ⟨?_, ?_, ?_, ?_, ?_, ?_, ?_, ?_, ?_⟩ <;> assumption) | go_keep)
    (first | (go_at_call 45; ((with_reducible refine (D1.out _ (by assumption)).mono ?_); rintro e w' ⟨rfl, z0, z1, z2, z3, z4, z5, z6, z7, z⟩)))
  go_wp2
  go_ret
  exact ⟨rfl, below_from B1.out (by assumption)⟩
set_option maxHeartbeats 1000000 in
set_option maxRecDepth 100000 in
theorem take_yes_at (F S C D U W B L now cost : Int) (hS : inR S) (hC : inR C) (hD : inR D) (hU : 1 ≤ U ∧ U ≤ 9223372036854775807) (hW : inR W) (hB : inR B) (hL : inR L) (hnow : inR now)
    (hn : inR (-clamp (C + D))) (hd : inR (clamp (now + clamp (B * U)) - max F now)) (hF : inR F) (hcost : inR cost) (hDc : inR (D + cost)) (hno : 1 ≤ cost ∧ cost ≤ roomZ F S C D U W B L now) (w : World) (bc o : Nat) (ty : TypeId) (A : Array Value) (hc : Blk w bc ty A) (ho : A[o]? = some (.int .i64 F) ∧ A[o + 1]? = some (.int .i64 S) ∧ A[o + 2]? = some (.int .i64 C) ∧ A[o + 3]? = some (.int .i64 D)) :
    Calls Tryz.prog 101 #[.pointer (some ⟨bc, o, none⟩), pv U W B L, .int .i64 now, .int .i64 cost] w fun e w' => e = .returned (.bool true) ∧ Blk w' bc ty ((A.setIfInBounds o (.int .i64 (clamp (max F now + clamp (cost * U))))).setIfInBounds (o + 3) (.int .i64 (D + cost))) ∧ Fr (fun k => k = bc) w w' := by
  have c1 := fun w => room_any F S C D U W B L now hS hC hD hU hW hB hL hnow hn hd w
  obtain ⟨r, hr⟩ : ∃ z, z = roomZ F S C D U W B L now := ⟨_, rfl⟩
  rw [← hr] at c1 hno
  have C1 := Lib.hid c1
  have HC := Lib.hid hc
  have HO := Lib.hid ho
  have c2 := fun w => product_any cost U hcost (by unfold inR; omega) w
  obtain ⟨q, hq⟩ : ∃ z, z = clamp (cost * U) := ⟨_, rfl⟩
  rw [← hq] at c2 ⊢
  have e1 : (if F < now then now else F) = max F now := max_if _ _
  have c3 := fun w => sum_any (if F < now then now else F) q (by split <;> assumption) (by rw [hq]; exact clamp_inR _) w
  rw [e1] at c3
  obtain ⟨F', hF'⟩ : ∃ z, z = clamp (max F now + q) := ⟨_, rfl⟩
  rw [← hF'] at c3 ⊢
  rw [← e1] at c3
  have e2 : IntKind.i64.wrap (D + cost) = D + cost := by rw [IntKind.wrap_i64]; unfold inR at hDc; omega
  have hdc : -9223372036854775808 ≤ D + cost ∧ D + cost ≤ 9223372036854775807 := hDc
  have t1 : decide (cost < 1) = false := by rw [decide_eq_false_iff_not]; omega
  have t2 : decide (r < cost) = false := by rw [decide_eq_false_iff_not]; omega
  have C2 := Lib.hid c2
  have C3 := Lib.hid c3
  have HDC := Lib.hid hdc
  clear e1 hF' hdc
  clear c1 c2 c3 hr hS hC hD hW hB hL hnow hn hd hc hno hq hcost hF hDc
  go_enter Tryz.func101, Tryz.ntmps101
  go_upto_region 1 with (fail)
  obtain ⟨w1, hw1, h1, b1⟩ := box_at w U W B L
  rw [hw1]
  have hcc := (HC.out.keep b1).rd
  have k0 : w1.drew.cell? ⟨bc, o, none⟩ = some (.int .i64 F) := (hcc (o)).trans ho.1
  have k1 : w1.drew.cell? ⟨bc, o + 1, none⟩ = some (.int .i64 S) := (hcc (o + 1)).trans ho.2.1
  have k2 : w1.drew.cell? ⟨bc, o + 2, none⟩ = some (.int .i64 C) := (hcc (o + 2)).trans ho.2.2.1
  have k3 : w1.drew.cell? ⟨bc, o + 3, none⟩ = some (.int .i64 D) := (hcc (o + 3)).trans ho.2.2.2
  have p0 : w1.drew.cell? ⟨w.heap.size, 0, none⟩ = some (.int .i64 U) := cell_at h1
  have p1 : w1.drew.cell? ⟨w.heap.size, 1, none⟩ = some (.int .i64 W) := cell_at h1
  have p2 : w1.drew.cell? ⟨w.heap.size, 2, none⟩ = some (.int .i64 B) := cell_at h1
  have p3 : w1.drew.cell? ⟨w.heap.size, 3, none⟩ = some (.int .i64 L) := cell_at h1
  have B1 := Lib.hid b1
  have HC1 := Lib.hid (HC.out.keep b1)
  clear b1 h1 hw1 hcc ho
  have pb : Below w1.heap.size w1 w1.drew := below_draws (Below.refl _ _) 1
  have D1 := Lib.hid (fun w' hb => (Calls.heldC (W2 := w1) C1.out w' hb).mono (fun e w'' (h : _ ∧ Below w1.heap.size w1 w'') => (⟨h.1, cell_kept h.2 k0, cell_kept h.2 k1, cell_kept h.2 k2, cell_kept h.2 k3, cell_kept h.2 p0, cell_kept h.2 p1, cell_kept h.2 p2, cell_kept h.2 p3, h.2⟩ : e = _ ∧ w''.cell? ⟨bc, o, none⟩ = some (.int .i64 F) ∧ w''.cell? ⟨bc, o + 1, none⟩ = some (.int .i64 S) ∧ w''.cell? ⟨bc, o + 2, none⟩ = some (.int .i64 C) ∧ w''.cell? ⟨bc, o + 3, none⟩ = some (.int .i64 D) ∧ w''.cell? ⟨w.heap.size, 0, none⟩ = some (.int .i64 U) ∧ w''.cell? ⟨w.heap.size, 1, none⟩ = some (.int .i64 W) ∧ w''.cell? ⟨w.heap.size, 2, none⟩ = some (.int .i64 B) ∧ w''.cell? ⟨w.heap.size, 3, none⟩ = some (.int .i64 L) ∧ Below w1.heap.size w1 w'')))
  go_region_held3 (fun w' => w'.cell? ⟨bc, o, none⟩ = some (.int .i64 F) ∧ w'.cell? ⟨bc, o + 1, none⟩ = some (.int .i64 S) ∧ w'.cell? ⟨bc, o + 2, none⟩ = some (.int .i64 C) ∧ w'.cell? ⟨bc, o + 3, none⟩ = some (.int .i64 D) ∧ w'.cell? ⟨w.heap.size, 0, none⟩ = some (.int .i64 U) ∧ w'.cell? ⟨w.heap.size, 1, none⟩ = some (.int .i64 W) ∧ w'.cell? ⟨w.heap.size, 2, none⟩ = some (.int .i64 B) ∧ w'.cell? ⟨w.heap.size, 3, none⟩ = some (.int .i64 L) ∧ Below w1.heap.size w1 w') (first | (refine ⟨?_, ?_, ?_, ?_, ?_, ?_, ?_, ?_, ?_⟩ <;> assumption) | go_keep)
    (first | (go_at_call 45; ((with_reducible refine (D1.out _ (by assumption)).mono ?_); rintro e w' ⟨rfl, z0, z1, z2, z3, z4, z5, z6, z7, z⟩)))
  go_upto_region 3 with (fail)
  have hcw := HC1.out.keep z
  have HCW := Lib.hid hcw
  have BW := Lib.hid (below_from B1.out z)
  have HL := Lib.hid lt_of_block HC.out
  generalize hb5 : w.heap.size = b5 at *
  clear k0 k1 k2 k3 p0 p1 p2 p3 pb D1 hcw t1 t2 HC HC1 C1 B1 z z1 z2 z5 z6 z7
  go_still_tail 14, (by kernel_rfl)
  still_call ((C2.out _).mono fun _ _ h => ⟨h.1, h.2.symm⟩)
  repeat still_step
  still_call ((C3.out _).mono fun _ _ h => ⟨h.1, h.2.symm⟩)
  repeat still_step
  refine wpStill_nil ?_
  change wpList _ _ _ _ _ w'.drew
  have s0 : w'.drew.cell? ⟨bc, o, none⟩ = some (.int .i64 F) := (HCW.out.rd o).trans HO.out.1
  have s1 : w'.drew.frozen? ⟨bc, o, none⟩ = false := HCW.out.wr o
  clear z0 z3 z4
  go_upto_region 4 with (fail)
  have so : (w'.setCell ⟨bc, o, none⟩ (.int .i64 F')) = setObj w' bc (.cells (A.setIfInBounds o (.int .i64 F')) ty (0, 0)) := setCell_obj HCW.out _
  rw [so]
  have hlt : bc < w'.heap.size := lt_of_block HCW.out
  have hx : (setObj w' bc (.cells (A.setIfInBounds o (.int .i64 F')) ty (0, 0))).drew.heap[bc]? = some (.cells (A.setIfInBounds o (.int .i64 F')) ty (0, 0)) := setObj_at hlt _
  have hf : Fr (fun k => k = bc) w (setObj w' bc (.cells (A.setIfInBounds o (.int .i64 F')) ty (0, 0))).drew := Fr.drew (Fr.setObj (F := fun k => k = bc) (b := bc) (Fr.of_below (by rw [hb5]; exact BW.out)) rfl _)
  generalize (setObj w' bc (.cells (A.setIfInBounds o (.int .i64 F')) ty (0, 0))).drew = wx at hx hf ⊢
  have s3 : wx.cell? ⟨bc, o + 3, none⟩ = some (.int .i64 D) := ((show Blk wx bc ty _ from hx).rd (o + 3)).trans ((Array.getElem?_setIfInBounds_ne (by omega)).trans HO.out.2.2.2)
  have s4 : wx.frozen? ⟨bc, o + 3, none⟩ = false := (show Blk wx bc ty _ from hx).wr (o + 3)
  have HX := Lib.hid hx
  have HF := Lib.hid hf
  clear hx hf so hlt s0 s1
  go_wp2
  all_goals
    go_ret
    refine ⟨rfl, ?_, ?_⟩
    · rw [setCell_obj HX.out]
      exact setObj_at (lt_of_block HX.out) _
    · rw [setCell_obj HX.out]
      exact Fr.setObj (F := fun k => k = bc) (b := bc) HF.out rfl _
end Go.Proofs.YtbgcpljekcagiaaGreat
/- LimiterExact, the plain side: a cell that carries nothing is bound by its units alone. -/
namespace Go.Proofs.YtbgcpljekcagiaaGreat
set_option linter.unusedSimpArgs false
set_option linter.unusedVariables false
set_option maxRecDepth 100000
/-- a cell without a carry: each unit that it let through lifted F by U at least. -/
structure CelE (F S D U : Int) : Prop where
  d : 0 ≤ D
  f : S + D * U ≤ F
theorem lt_units {a W U B L : Int} (hU : 1 ≤ U) (hW : W ≤ U * (L + 1 - B)) (h : a * U < W + B * U) : a ≤ L := by
  have h1 : U * (L + 1 - B) = (L + 1) * U - B * U := by rw [Int.mul_comm, Int.sub_mul]
  have h2 : a * U < (L + 1) * U := by omega
  have h3 : a < L + 1 := Int.lt_of_mul_lt_mul_right h2 (by omega)
  omega
theorem CelE.room {F S D U W B L t : Int} (h : CelE F S D U) (hU : 1 ≤ U) (hW : W ≤ U * (L + 1 - B)) : roomP F S 0 D U W B L t = baseP F U B t := by
  unfold roomP
  split
  · rename_i hy
    have h0 := base_lo F U B t
    have hle : baseP F U B t ≤ restP 0 D L := by
      unfold restP
      rcases Int.lt_or_le (baseP F U B t) 1 with g | g
      · omega
      · have hb := (base_iff hU g).1 (Int.le_refl _)
        have e : (baseP F U B t + D) * U = baseP F U B t * U + D * U := Int.add_mul _ _ _
        have h2 : baseP F U B t + D ≤ L := lt_units hU hW (by have := h.f; omega)
        omega
    omega
  · rfl
theorem room_old {F S C D U W B L t : Int} (h : S + W ≤ t) : roomP F S C D U W B L t = baseP F U B t := by
  unfold roomP; rw [if_neg (by omega)]
theorem CelE.wait {F S D U W B L t cost : Int} (h : CelE F S D U) (hU : 1 ≤ U) (hW : W ≤ U * (L + 1 - B)) : waitP F S 0 D U W B L t cost = max t (F - (B - cost) * U) - t := by
  unfold waitP
  rw [if_neg]
  rintro ⟨g1, g2⟩
  have e1 : (B - cost) * U = B * U - cost * U := Int.sub_mul _ _ _
  have e2 : (cost + D) * U = cost * U + D * U := Int.add_mul _ _ _
  have h2 : cost + D ≤ L := lt_units hU hW (by have := h.f; omega)
  unfold restP at g2
  omega
theorem wait_old {F S C D U W B L t cost : Int} (h : S + W ≤ t) : waitP F S C D U W B L t cost = max t (F - (B - cost) * U) - t := by
  unfold waitP; rw [if_neg (by omega)]
theorem CelE.new (t U : Int) : CelE t t 0 U := ⟨by omega, by omega⟩
theorem CelE.take {F S D U t cost : Int} (h : CelE F S D U) (hc : 0 ≤ cost) : CelE (max F t + cost * U) S (D + cost) U := by
  have e : (D + cost) * U = D * U + cost * U := Int.add_mul _ _ _
  exact ⟨by have := h.d; omega, by have := h.f; omega⟩
end Go.Proofs.YtbgcpljekcagiaaGreat
