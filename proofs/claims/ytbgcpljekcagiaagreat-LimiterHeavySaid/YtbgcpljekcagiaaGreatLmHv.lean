import Derived.Test.YtbgcpljekcagiaaGreatZLmN
/- The law LimiterHeavy of layer 12 (limiter), walked. -/
namespace Go.Proofs.YtbgcpljekcagiaaGreat
set_option linter.unusedSimpArgs false
set_option linter.unusedVariables false
set_option maxRecDepth 100000
open Go.ChangeShapes Go.WideShapes Go.ChangeAt Go.RowKit
open Ar (inR)
section
variable {N : LmN} {X A B : Nat → Nat} {Wd : Int} {s : Nat}
abbrev kLi : ByteArray := ⟨#[108, 105, 103, 104, 116]⟩
abbrev kHe : ByteArray := ⟨#[104, 101, 97, 118, 121]⟩
def hvK (k : ByteArray) : KSt := ⟨[], fun j => if j = 0 then some k else none⟩
def hvA (U : Int) : LmS := ⟨hvK kLi, [(1 + 1 * U, 1, 0, 1)], ⟨1, fun _ => 0, fun _ _ _ => 0⟩, [(kLi, 1, 0)], 1, 1, 0, 0⟩
theorem hv_room {U W : Int} (hU : 1 ≤ U) (hW : 1 ≤ W) : celR (1, 1, 0, 0) U W 1 32 1 = 1 := by
  show roomP 1 1 0 0 U W 1 32 1 = 1
  unfold roomP baseP restP
  rw [if_pos (by omega), show (1 : Int) + 1 * U - max 1 1 = U by omega, Int.tdiv_self (by omega)]
  decide
theorem hv_idle {F W : Int} (hW : 1 ≤ W ∧ W ≤ 256) : idleG F 1 W 1 = false := by
  unfold idleG
  rw [show clamp (1 + W) = 1 + W from clamp_nn (by omega), decide_eq_true (by omega)]
  rfl
theorem hv_one (hp : LmP N 32 Wd 1 1 s 1 16 1 8 false X A B) (hW : 1 ≤ Wd ∧ Wd ≤ 256) (hU : 1 ≤ N.U) (hs : 1 ≤ s) : ∃ r, (lmZ 1).check N 1 0 kLi 1 = (hvA N.U, (1, r, 0), [(kLi, true)]) := by
  have hr : refZ N 1 0 1 = ((0, 0, 0), false) := by unfold refZ; rw [hp.pB]; decide
  have hsn : (lmZ 1).seen N 1 kLi 1 = ⟨kNew 1, [(0, 0, 0, 0)], ⟨1, fun _ => 0, fun _ _ _ => 0⟩, [(kLi, 1, 0)], 1, 0, 0, 0⟩ := by
    unfold LmS.seen
    rw [hp.pT]
    rw [show offerM 8 (lmZ 1).M (lmZ 1).tot kLi 1 = ([(kLi, 1, 0)], 1) by decide]
    rfl
  have he := fun s => est_zeroF (R := N.R) (by rw [hp.ps]; exact hs) 1 (fun _ => 0) s
  have ha : LmS.adm ⟨kNew 1, [(0, 0, 0, 0)], ⟨1, fun _ => 0, fun _ _ _ => 0⟩, [(kLi, 1, 0)], 1, 0, 0, 0⟩ N 1 kLi = (⟨hvK kLi, [(1, 1, 0, 0)], ⟨1, fun _ => 0, fun _ _ _ => 0⟩, [(kLi, 1, 0)], 1, 0, 0, 0⟩, [(kLi, true)]) := by
    unfold LmS.adm LmS.full LmS.put
    rw [hp.pC]
    simp only [he]
    rfl
  have hroom := hv_room (W := N.W) hU (by rw [hp.pW]; exact hW.1)
  have hj : ∃ r, LmS.judge ⟨hvK kLi, [(1, 1, 0, 0)], ⟨1, fun _ => 0, fun _ _ _ => 0⟩, [(kLi, 1, 0)], 1, 0, 0, 0⟩ N 1 kLi 1 = ((1, r, 0), ⟨hvK kLi, [(1 + 1 * N.U, 1, 0, 1)], ⟨1, fun _ => 0, fun _ _ _ => 0⟩, [(kLi, 1, 0)], 1, 0, 0, 0⟩) := by
    unfold LmS.judge
    rw [hp.pC]
    show ∃ r, (if (1 : Int) ≤ celR (1, 1, 0, 0) N.U N.W N.B N.L 1 then _ else _) = _
    rw [hp.pB, hp.pL, hroom, if_pos (Int.le_refl _)]
    exact ⟨_, rfl⟩
  obtain ⟨r, hj⟩ := hj
  refine ⟨r, ?_⟩
  unfold LmS.check
  rw [hr, hsn, ha]
  simp only [Bool.false_eq_true, if_false]
  rw [hj]
  rfl
theorem hv_two (hp : LmP N 32 Wd 1 1 s 1 16 1 8 false X A B) (hW : 1 ≤ Wd ∧ Wd ≤ 256) (hs : 1 ≤ s) : ∃ a r, (hvA N.U).check N 1 0 kHe 1 = (⟨hvK kLi, [(1 + 1 * N.U, 1, 0, 1)], r, [(kLi, 1, 0), (kHe, 1, 0)], 2, 2, 0, 0⟩, a, []) ∧ r.t ≤ 1 := by
  have hr : refZ N 1 0 1 = ((0, 0, 0), false) := by unfold refZ; rw [hp.pB]; decide
  have hsn : (hvA N.U).seen N 1 kHe 1 = ⟨hvK kLi, [(1 + 1 * N.U, 1, 0, 1)], ⟨1, fun _ => 0, fun _ _ _ => 0⟩, [(kLi, 1, 0), (kHe, 1, 0)], 2, 1, 0, 0⟩ := by
    unfold LmS.seen
    rw [hp.pT]
    show LmS.mk _ _ _ (offerM 8 [(kLi, 1, 0)] 1 kHe 1).1 (offerM 8 [(kLi, 1, 0)] 1 kHe 1).2 _ _ _ = _
    rw [show offerM 8 [(kLi, 1, 0)] 1 kHe 1 = ([(kLi, 1, 0), (kHe, 1, 0)], 2) by decide]
    rfl
  have hi : plIdle [(kLi, ((1 + 1 * N.U, 1, 0, 1) : Cel))] N.W 1 = none := by
    unfold plIdle
    rw [List.find?_cons, hp.pW, hv_idle hW]
    rfl
  have ha : LmS.adm ⟨hvK kLi, [(1 + 1 * N.U, 1, 0, 1)], ⟨1, fun _ => 0, fun _ _ _ => 0⟩, [(kLi, 1, 0), (kHe, 1, 0)], 2, 1, 0, 0⟩ N 1 kHe = (⟨hvK kLi, [(1 + 1 * N.U, 1, 0, 1)], ⟨1, fun _ => 0, fun _ _ _ => 0⟩, [(kLi, 1, 0), (kHe, 1, 0)], 2, 1, 0, 0⟩, []) := by
    have hg : LmS.giver ⟨hvK kLi, [(1 + 1 * N.U, 1, 0, 1)], ⟨1, fun _ => 0, fun _ _ _ => 0⟩, [(kLi, 1, 0), (kHe, 1, 0)], 2, 1, 0, 0⟩ N 1 kHe = none := by
      unfold LmS.giver LmS.light LmS.res
      rw [hp.pC, hp.pT]
      show (match plIdle [(kLi, ((1 + 1 * N.U, 1, 0, 1) : Cel))] N.W 1 with | some x => some x.1 | none => _) = none
      rw [hi]
      rfl
    unfold LmS.adm LmS.full
    rw [hp.pC, hg]
    rfl
  have he := est_zeroF (R := N.R) (by rw [hp.ps]; exact hs) 1 (fun _ => 0) kHe
  have hj : ∃ a, LmS.judge ⟨hvK kLi, [(1 + 1 * N.U, 1, 0, 1)], ⟨1, fun _ => 0, fun _ _ _ => 0⟩, [(kLi, 1, 0), (kHe, 1, 0)], 2, 1, 0, 0⟩ N 1 kHe 1 = ((1, a, 0), ⟨hvK kLi, [(1 + 1 * N.U, 1, 0, 1)], RgS.add ⟨1, fun _ => 0, fun _ _ _ => 0⟩ N.R kHe 1, [(kLi, 1, 0), (kHe, 1, 0)], 2, 1, 0, 0⟩) := by
    unfold LmS.judge
    rw [hp.pC]
    show ∃ a, (if clamp (estZ N.R ⟨1, fun _ => 0, fun _ _ _ => 0⟩ kHe + 1) ≤ N.L then _ else _) = _
    rw [he, hp.pL]
    exact ⟨_, rfl⟩
  obtain ⟨a, hj⟩ := hj
  refine ⟨(1, a, 0), RgS.add ⟨1, fun _ => 0, fun _ _ _ => 0⟩ N.R kHe 1, ?_, Int.le_refl _⟩
  unfold LmS.check
  rw [hr, hsn, ha]
  simp only [Bool.false_eq_true, if_false]
  rw [hj]
  rfl
theorem hv_three (hp : LmP N 32 Wd 1 1 s 1 16 1 8 false X A B) (hW : 1 ≤ Wd ∧ Wd ≤ 256) (r : RgS) : ∃ s2 a, LmS.check ⟨hvK kLi, [(1 + 1 * N.U, 1, 0, 1)], r, [(kLi, 1, 0), (kHe, 1, 0)], 2, 2, 0, 0⟩ N 1 0 kHe 1 = (s2, a, [(kLi, false), (kHe, true)]) ∧ s2.cellOf N kLi = none ∧ ∃ c, s2.cellOf N kHe = some c := by
  have hr : refZ N 1 0 1 = ((0, 0, 0), false) := by unfold refZ; rw [hp.pB]; decide
  have hsn : LmS.seen ⟨hvK kLi, [(1 + 1 * N.U, 1, 0, 1)], r, [(kLi, 1, 0), (kHe, 1, 0)], 2, 2, 0, 0⟩ N 1 kHe 1 = ⟨hvK kLi, [(1 + 1 * N.U, 1, 0, 1)], ⟨max r.t 1, r.num, r.F⟩, [(kHe, 2, 0), (kLi, 1, 0)], 3, 2, 0, 0⟩ := by
    unfold LmS.seen
    rw [hp.pT]
    show LmS.mk _ _ _ (offerM 8 [(kLi, 1, 0), (kHe, 1, 0)] 2 kHe 1).1 (offerM 8 [(kLi, 1, 0), (kHe, 1, 0)] 2 kHe 1).2 _ _ _ = _
    rw [show offerM 8 [(kLi, 1, 0), (kHe, 1, 0)] 2 kHe 1 = ([(kHe, 2, 0), (kLi, 1, 0)], 3) by decide]
  have hi : plIdle [(kLi, ((1 + 1 * N.U, 1, 0, 1) : Cel))] N.W 1 = none := by
    unfold plIdle
    rw [List.find?_cons, hp.pW, hv_idle hW]
    rfl
  have ha : ∃ s3, LmS.adm ⟨hvK kLi, [(1 + 1 * N.U, 1, 0, 1)], ⟨max r.t 1, r.num, r.F⟩, [(kHe, 2, 0), (kLi, 1, 0)], 3, 2, 0, 0⟩ N 1 kHe = (s3, [(kLi, false), (kHe, true)]) ∧ posN 1 s3.σ.K kLi = none ∧ posN 1 s3.σ.K kHe = some 0 := by
    have hg : LmS.giver ⟨hvK kLi, [(1 + 1 * N.U, 1, 0, 1)], ⟨max r.t 1, r.num, r.F⟩, [(kHe, 2, 0), (kLi, 1, 0)], 3, 2, 0, 0⟩ N 1 kHe = some kLi := by
      unfold LmS.giver LmS.light LmS.res
      rw [hp.pC, hp.pT]
      show (match plIdle [(kLi, ((1 + 1 * N.U, 1, 0, 1) : Cel))] N.W 1 with | some x => some x.1 | none => _) = some kLi
      rw [hi]
      rfl
    unfold LmS.adm LmS.full
    rw [hp.pC, hg]
    refine ⟨_, rfl, ?_, ?_⟩
    · unfold LmS.put LmS.evict
      rw [hp.pC]
      rfl
    · unfold LmS.put LmS.evict
      rw [hp.pC]
      rfl
  obtain ⟨s3, ha, h1, h2⟩ := ha
  refine ⟨(s3.judge N 1 kHe 1).2.count (s3.judge N 1 kHe 1).1.1, (s3.judge N 1 kHe 1).1, ?_, ?_, ?_⟩
  · unfold LmS.check
    rw [hr, hsn, ha]
    simp only [Bool.false_eq_true, if_false]
  · unfold LmS.cellOf
    rw [count_σ, judge_σ, hp.pC, h1]
    rfl
  · unfold LmS.cellOf
    rw [count_σ, judge_σ, hp.pC, h2]
    exact ⟨_, rfl⟩
end
set_option maxRecDepth 100000 in
set_option maxHeartbeats 6000000 in
theorem lmheavy_law (w : World) (x n : Int) (_hx : inR x) (hn : inR n) :
    Calls Tryz.prog 12 #[.int .i64 x, .int .i64 n] w fun e w' => e = .returned (.bool true) ∧ Below w.heap.size w w' := by
  clear _hx
  obtain ⟨n0, hn0⟩ : ∃ z, z = n % 32 := ⟨_, rfl⟩
  have e1 : bits .and .i64 n 31 = n0 := by rw [hn0]; exact i64_mask5 n
  obtain ⟨n1, hn1⟩ : ∃ z, z = n0 + 2 := ⟨_, rfl⟩
  have e2 : IntKind.i64.wrap (n0 + 2) = n1 := by rw [IntKind.wrap_i64]; omega
  have HN1 := Lib.hid (show 2 ≤ n1 ∧ n1 ≤ 33 by omega)
  clear hn0 hn1 hn
  have CRu := Lib.hid (fun wx => show Calls Tryz.prog 17 #[planV 31 x 0 0 0 0 15 7 false] wx _ from lmrule_any 31 x 0 0 0 0 15 7 false wx)
  obtain ⟨Wd, hWd⟩ : ∃ z, z = ((lqS x * lqN 0 : Nat) : Int) := ⟨_, rfl⟩
  have hWb : 1 ≤ Wd ∧ Wd ≤ 256 := by
    have : lqN 0 = 1 := rfl
    rw [hWd, this, Nat.mul_one]
    unfold lqS
    omega
  have hs1 : 1 ≤ lqS x := by unfold lqS; omega
  rw [← hWd] at CRu
  have CRu := Lib.hid (fun wx => show Calls Tryz.prog 17 #[planV 31 x 0 0 0 0 15 7 false] wx (fun e w' => e = .returned (rlV 32 Wd 1 1 1 1 16 8 false) ∧ Below wx.heap.size wx w') from CRu.out wx)
  have CNw := Lib.hid (fun b0 wx (hb : Blk wx b0 73 #[.int .u64 3, .int .u64 1, .int .u64 4]) => show Calls Tryz.prog 18 #[rlV 32 Wd 1 1 1 1 16 8 false, .slice (some ⟨b0, 0, none⟩) 3 3] wx (fun v w' => ∃ N : LmN, v = .returned (.pointer (some ⟨N.l, 0, none⟩)) ∧ LmAt w' N (lmZ 1) ∧ LmP N 32 Wd 1 1 (lqS x) 1 16 1 8 false (rX [3, 1, 4]) (rA [3, 1, 4]) (rB [3, 1, 4]) ∧ (∀ b, N.all b → wx.heap.size ≤ b) ∧ Below wx.heap.size wx w') from by rw [hWd]; exact lmplan_new 31 x 0 0 0 0 15 7 false (some ⟨b0, 0, none⟩) 3 3 [3, 1, 4] wx (rd_blk (k := .u64) (zs := [3, 1, 4]) hb rfl (by unfold maxLen; omega) (by intro z hz; simp only [List.mem_cons, List.not_mem_nil, or_false] at hz; rcases hz with rfl | rfl | rfl <;> decide)))
  have HI := Lib.hid (fun (N : LmN) wx (hA : LmAt wx N (lmZ 1)) (hp : LmP N 32 Wd 1 1 (lqS x) 1 16 1 8 false (rX [3, 1, 4]) (rA [3, 1, 4]) (rB [3, 1, 4])) => show LmI N (lmZ 1) 0 0 from by rw [hWd] at hp; exact lmplan_I (a := 31) (b := x) (c := 0) (d := 0) (e := 0) (f := 0) (g := 15) (h := 7) (sm := false) hA hp)
  have HW := Lib.hid (And.intro hWb hs1)
  clear hWd hWb hs1
  go_enter Tryz.func12, Tryz.ntmps12
  go_upto_region 3 with (go_at_call 15; ((refine (lmfit_any _).mono ?_); rintro e w3 ⟨rfl, b3⟩; have B3 := Lib.hid b3; clear b3))
  go_upto_region 5 with (go_at_call 17; ((with_reducible refine (CRu.out _).mono ?_); rintro e w5 ⟨rfl, b5⟩; obtain ⟨y1, y2, ey1, kr9, kw9, ey2, bl9, kc9⟩ := box9R w5 (.int .i64 32) (.int .i64 Wd) (.int .i64 1) (.int .i64 1) (.int .i64 1) (.int .i64 1) (.int .i64 16) (.int .i64 8) (.bool false); have K6 := Lib.hid (And.intro kc9 (below_in (below_in B3.out b5) bl9)); clear b5 bl9 kc9))
  clear ey1 kr9 kw9 ey2 CRu e1 e2
  obtain ⟨rb, hrb⟩ : ∃ rb, rb = w5.heap.size := ⟨_, rfl⟩
  rw [← hrb] at K6 ⊢
  clear hrb
  have kru := K6.out.1.rd
  obtain ⟨yq, hyq, kq, lq, sq⟩ := box_new y2 #[.int .u64 3, .int .u64 1, .int .u64 4] 73
  have KQ := Lib.hid (And.intro kq (below_in K6.out.2 lq))
  clear kq lq sq
  go_upto_region 6 with (go_at_call 18; ((with_reducible refine (CNw.out _ _ KQ.out.1).mono ?_); rintro v w7 ⟨N, rfl, a7, p7, n7, b7⟩; have P7 := Lib.hid p7; have G7 := Lib.hid (show LmLaw w w7 N (lmZ 1) 0 0 from ⟨a7, HI.out N _ a7 p7, fun b hb => Nat.le_trans KQ.out.2.size (n7 b hb), below_in KQ.out.2 b7⟩); clear a7 p7 n7 b7))
  clear CNw kru hyq
  have hU : 1 ≤ N.U := G7.out.I.U.1
  obtain ⟨r1, h1⟩ := hv_one P7.out HW.out.1 hU HW.out.2
  obtain ⟨a2, r2, h2, hr2⟩ := hv_two P7.out HW.out.1 HW.out.2
  obtain ⟨s3, a3, h3, h4, h5⟩ := hv_three P7.out HW.out.1 r2
  have H4 := Lib.hid (And.intro h4 h5)
  have i1 := (G7.out.I.mono (t' := 1) (m' := 0) (by omega) (by omega)).check (by omega) 0 kLi 1
  rw [h1] at i1
  have i2 := i1.check (by omega) 0 kHe 1
  rw [h2] at i2
  have i3 := i2.check (by omega) 0 kHe 1
  rw [h3] at i3
  have I1 := Lib.hid i1
  have I2 := Lib.hid i2
  have I3 := Lib.hid i3
  have c1 := lmcheckI (N := N) (s := lmZ 1) 1 0 kLi 1 (by show 5 ≤ maxLen; unfold maxLen; omega) (by unfold inR; omega) (by unfold inR; omega) w7 G7.out.at_ (G7.out.I.mono (t' := 1) (m' := 0) (by omega) (by omega)) (by omega)
  rw [h1] at c1
  have C1 := Lib.hid c1
  have C2 := Lib.hid (fun wx (hx : LmAt wx N (hvA N.U)) => show Calls Tryz.prog 24 #[.pointer (some ⟨N.l, 0, none⟩), .int .i64 1, .int .i64 0, .string kHe, .int .i64 1] wx _ from by have := lmcheckI (N := N) (s := hvA N.U) 1 0 kHe 1 (by show 5 ≤ maxLen; unfold maxLen; omega) (by unfold inR; omega) (by unfold inR; omega) wx hx I1.out (by omega); rw [h2] at this; exact this)
  obtain ⟨s2, hs2⟩ : ∃ s2, s2 = LmS.mk (hvK kLi) [(1 + 1 * N.U, 1, 0, 1)] r2 [(kLi, 1, 0), (kHe, 1, 0)] 2 2 0 0 := ⟨_, rfl⟩
  rw [← hs2] at C2 I2 h3
  have C3 := Lib.hid (fun wx (hx : LmAt wx N s2) => show Calls Tryz.prog 24 #[.pointer (some ⟨N.l, 0, none⟩), .int .i64 1, .int .i64 0, .string kHe, .int .i64 1] wx _ from by have := lmcheckI (N := N) (s := s2) 1 0 kHe 1 (by show 5 ≤ maxLen; unfold maxLen; omega) (by unfold inR; omega) (by unfold inR; omega) wx hx I2.out (by omega); rw [h3] at this; exact this)
  obtain ⟨⟨p1, p2, p3⟩, hp⟩ : ∃ z, z = a3 := ⟨_, rfl⟩
  rw [← hp] at C3
  obtain ⟨⟨q1, q2, q3⟩, hq⟩ : ∃ z, z = a2 := ⟨_, rfl⟩
  rw [← hq] at C2
  clear h1 h2 h3 h4 h5 hr2 hs2 i1 i2 i3 c1 hU hp hq HI
  go_upto_region 7 with (go_at_call 24; ((with_reducible refine C1.out.mono ?_); rintro e' z1 ⟨vv, rfl, o1, a1, f1⟩; obtain ⟨g1, c1, rfl, q7, q8, q9⟩ := G.own_at o1; obtain ⟨gg, rfl, _, hg3, hl3, hc3, _⟩ := q9 (by show 0 < 1; omega); obtain ⟨x8, y8, ex8, kr8, kw8, ey8, b8, k8⟩ := boxA z1 1 r1 0; have G8 := Lib.hid (show LmLaw w y8 N (hvA N.U) 1 _ from (LmLaw.op G7.out a1 I1.out f1 (fun b hb => hb)).keep b8); have O8 := Lib.hid (show y8.cell? ⟨gg, 2, none⟩ = some (.bool true) from (b8.cell (p := ⟨gg, 2, none⟩) hl3).trans ((hc3 2 (by show 2 < 1 * 4; omega)).trans rfl)); have Q8 := Lib.hid (And.intro q7 q8); clear a1 f1 o1 q7 q8 q9 hc3 hg3 hl3 b8 k8))
  clear ex8 kr8 kw8 ey8
  have ko := O8.out
  have kcap := Q8.out.1
  go_upto_region 9 with (fail)
  clear ko
  have t33 : n1 ≤ 33 := HN1.out.2
  go_wp2
  go_loopg [42] 2 (fun kk sj wr => ∃ j : Nat, Hid (kk = 2 - j) ∧ sj = .int .i64 (j : Int) ∧ ((j = 0 ∧ Hid (LmLaw w wr N (hvA N.U) 1 (0 + 2097153))) ∨ (j = 1 ∧ Hid (LmLaw w wr N s2 1 (0 + 2097153 + 2097153)))))
  case atStart => exact ⟨0, Lib.hid rfl, rfl, Or.inl ⟨rfl, G8⟩⟩
  case round =>
    obtain ⟨j, HKK, rfl, ⟨rfl, HG⟩ | ⟨rfl, HG⟩⟩ := hrel
    · have t4 : (0 : Int) < n1 := by have := HN1.out; omega
      have CC := Lib.hid (C2.out _ HG.out.at_)
      go_upto_region 12 with (go_at_call 24; ((with_reducible refine CC.out.mono ?_); rintro e' z2 ⟨vv, rfl, o1, a1, f1⟩; obtain ⟨g2, c2, rfl, q7, q8, q9⟩ := G.own_at o1; obtain ⟨x9, y9, ex9, kr9, kw9, ey9, b9, k9⟩ := boxA z2 q1 q2 q3; have G9 := Lib.hid (show LmLaw w y9 N s2 1 _ from (LmLaw.op HG.out a1 I2.out f1 (fun b hb => hb)).keep b9); clear a1 f1 o1 q7 q8 q9 b9 k9))
      clear ex9 kr9 kw9 ey9
      go_wp2
      go_roundg 1
      case measure => have := HKK.out; omega
      case rel => exact ⟨1, Lib.hid rfl, by go_num, Or.inr ⟨rfl, G9⟩⟩
    · have t4 : (1 : Int) < n1 := by have := HN1.out; omega
      have CC := Lib.hid (C3.out _ HG.out.at_)
      go_upto_region 12 with (go_at_call 24; ((with_reducible refine CC.out.mono ?_); rintro e' z2 ⟨vv, rfl, o1, a1, f1⟩; obtain ⟨g2, c2, rfl, q7, q8, q9⟩ := G.own_at o1; obtain ⟨gh, rfl, _, hg3, hl3, hc3, _⟩ := q9 (by show 0 < 2; omega); obtain ⟨x9, y9, ex9, kr9, kw9, ey9, b9, k9⟩ := boxA z2 p1 p2 p3; have G9 := Lib.hid (show LmLaw w y9 N s3 1 _ from (LmLaw.op HG.out a1 I3.out f1 (fun b hb => hb)).keep b9); have O9 := Lib.hid (fun i v (hi : i < 2 * 4) (hv : (evL 1 [(kLi, false), (kHe, true)])[i]? = some v) => (b9.cell (p := ⟨gh, i, none⟩) hl3).trans ((hc3 i hi).trans hv)); have Q9 := Lib.hid (And.intro q7 q8); clear a1 f1 o1 q7 q8 q9 hc3 hg3 hl3 b9 k9))
      clear ex9 kr9 kw9 ey9
      have o1 : y9.cell? ⟨gh, 1, none⟩ = some (.string kLi) := O9.out 1 _ (by omega) rfl
      have o2 : y9.cell? ⟨gh, 2, none⟩ = some (.bool false) := O9.out 2 _ (by omega) rfl
      have o3 : y9.cell? ⟨gh, 5, none⟩ = some (.string kHe) := O9.out 5 _ (by omega) rfl
      have o4 : y9.cell? ⟨gh, 6, none⟩ = some (.bool true) := O9.out 6 _ (by omega) rfl
      have qc := Q9.out.1
      go_upto_region 15 with (fail)
      clear o1 o2 o3 o4
      obtain ⟨hh1, cc, hh2⟩ := H4.out
      have CR1 := lmcell_any kLi (by show 5 ≤ maxLen; unfold maxLen; omega) y9 G9.out.at_
      rw [hh1] at CR1
      have CR1 := Lib.hid (show Calls Tryz.prog 34 #[.pointer (some ⟨N.l, 0, none⟩), .string kLi] y9 (fun e w' => e = .returned (.tuple #[celV (0, 0, 0, 0), .bool false]) ∧ Below y9.heap.size y9 w') from CR1)
      have CR2 := Lib.hid (fun wx (hx : LmAt wx N s3) => show Calls Tryz.prog 34 #[.pointer (some ⟨N.l, 0, none⟩), .string kHe] wx (fun e w' => e = .returned (.tuple #[celV cc, .bool true]) ∧ Below wx.heap.size wx w') from by have := lmcell_any kHe (by show 5 ≤ maxLen; unfold maxLen; omega) wx hx; rw [hh2] at this; exact this)
      clear hh1 hh2
      go_upto_region 16 with (go_at_call 34; ((with_reducible refine CR1.out.mono ?_); rintro e' z3 ⟨rfl, b3⟩; obtain ⟨x10, y10, ex10, kr10, kw10, ey10, b10, k10⟩ := cbox z3 (0, 0, 0, 0); have G10 := Lib.hid ((G9.out.keep b3).keep b10); clear b3 b10 k10))
      clear ex10 kr10 kw10 ey10
      have CR3 := Lib.hid (CR2.out _ G10.out.at_)
      go_upto_region 17 with (go_at_call 34; ((with_reducible refine CR3.out.mono ?_); rintro e' z4 ⟨rfl, b4⟩; obtain ⟨x11, y11, ex11, kr11, kw11, ey11, b11, k11⟩ := cbox z4 cc; have G11 := Lib.hid ((G10.out.keep b4).keep b11); clear b4 b11 k11))
      clear ex11 kr11 kw11 ey11
      go_wp2
      go_ret
      exact ⟨rfl, G11.out.bl⟩
end Go.Proofs.YtbgcpljekcagiaaGreat
