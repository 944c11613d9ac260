/- The contracts of layer 17 (config): the largest answer of a configuration. -/
import Derived.Test.YtfpknklnbgmflaaCfH
import Derived.Test.YtfpknklnbgmflaaCfG
namespace Go.Proofs.Ytfpknklnbgmflaa
set_option linter.unusedSimpArgs false
set_option linter.unusedVariables false
open Go.ChangeShapes Go.WideShapes Go.ChangeAt Go.RowKit
open Ar (inR)
def mx (a b : Int) : Int := if a < b then b else a
def stepM (m t : Int) : Nat → Int
  | 0 => m
  | 1 => mx m 22
  | 2 => mx (mx m 22) 46
  | _ => mx (mx (mx m 22) 46) (7 + 81 * t)
def mostZ (rs : List RuZ) : Int := rs.foldl (fun m r => stepM m r.Tr 3) 6
theorem mostZ_take {l : List RuZ} {i : Nat} (h : i < l.length) : mostZ (l.take (i + 1)) = stepM (mostZ (l.take i)) (l[i]).Tr 3 := by
  unfold mostZ
  rw [List.take_succ_eq_append_getElem h, List.foldl_append]
  rfl
theorem step_bd {m t : Int} (h : 6 ≤ m ∧ m ≤ 5191) (ht : 1 ≤ t ∧ t ≤ 64) (j : Nat) : 6 ≤ stepM m t j ∧ stepM m t j ≤ 5191 := by
  match j with
  | 0 => exact h
  | 1 => show 6 ≤ mx m 22 ∧ mx m 22 ≤ 5191; unfold mx; split <;> omega
  | 2 => show 6 ≤ mx (mx m 22) 46 ∧ mx (mx m 22) 46 ≤ 5191; unfold mx; repeat' split
         all_goals omega
  | j + 3 => show 6 ≤ mx (mx (mx m 22) 46) (7 + 81 * t) ∧ mx (mx (mx m 22) 46) (7 + 81 * t) ≤ 5191; unfold mx; repeat' split
             all_goals omega
theorem most_bd : ∀ (l : List RuZ) (m : Int), 6 ≤ m ∧ m ≤ 5191 → (∀ r ∈ l, r.p) → 6 ≤ l.foldl (fun m r => stepM m r.Tr 3) m ∧ l.foldl (fun m r => stepM m r.Tr 3) m ≤ 5191
  | [], _, h, _ => h
  | a :: l, m, h, hp => by
    have h9 := (hp a (by simp)).2.2.2.2.2.2.2.2.1
    exact most_bd l _ (step_bd h h9 3) (fun r hr => hp r (by simp [hr]))
abbrev reqs3 (t : Int) : Array Value := #[.int .i64 1, .int .i64 0, .int .u32 0, .string ⟨#[]⟩, .int .i64 0, .int .i64 3, .int .i64 0, .int .u32 0, .string ⟨#[]⟩, .int .i64 0, .int .i64 4, .int .i64 0, .int .u32 0, .string ⟨#[]⟩, .int .i64 t]
set_option maxHeartbeats 4000000 in
set_option maxRecDepth 100000 in
theorem most_any (Bu Co Ou : Int) (A : Option Addr) (n c : Nat) (rs : List RuZ) (w : World) (hr : RdRu w A n c rs) (hp : ∀ r ∈ rs, r.p) :
    Calls Try.prog 16 #[.agg #[.int .i64 Bu, .int .i64 Co, .int .i64 Ou, .slice A n c]] w fun e w' => e = .returned (.int .i64 (mostZ rs)) ∧ Below w.heap.size w w' := by
  have hcp := hr.cap
  have hmx := hr.max
  unfold maxLen at hmx
  have HR := Lib.hid hr
  have HP := Lib.hid hp
  clear hr hp
  go_enter Try.func16, Try.ntmps16
  go_upto_region 1 with (fail)
  obtain ⟨w1, hw1, hbk, hbl, hsz1⟩ := box_new w #[.int .i64 Bu, .int .i64 Co, .int .i64 Ou, .slice A n c] 29
  change Code.wp _ _ _ _ (w.alloc (.cells #[.int .i64 Bu, .int .i64 Co, .int .i64 Ou, .slice A n c] 29))
  rw [hw1]
  obtain ⟨b0, hb0⟩ : ∃ b0, b0 = w.heap.size := ⟨_, rfl⟩
  rw [← hb0] at hbk ⊢
  have k0 := hbk.rd
  have BL1 := Lib.hid hbl
  have HR2 := Lib.hid (HR.out.below hbl)
  clear hbk hbl hsz1 hw1 hb0
  go_upto_region 3 with (fail)
  clear k0
  go_loopg [3, 11] n (fun k s3 s15 wr => ∃ i : Nat, i ≤ n ∧ k = n - i ∧ s3 = .int .i64 (mostZ (rs.take i)) ∧ s15 = .int .i64 (i : Int) ∧ Below w1.heap.size w1 wr)
  case atStart => exact ⟨0, by omega, by omega, by simp [mostZ], rfl, Below.refl _ _⟩
  case round =>
    obtain ⟨i, hi, hkk, rfl, rfl, hb⟩ := hrel
    have HK := Lib.hid hkk
    have HBR := Lib.hid hb
    have hlen := HR.out.len
    obtain ⟨m, hm⟩ : ∃ m, m = mostZ (rs.take i) := ⟨_, rfl⟩
    rw [← hm]
    have hmb : 6 ≤ m ∧ m ≤ 5191 := by
      rw [hm]
      exact most_bd (rs.take i) 6 (by omega) (fun r hr => HP.out r (List.mem_of_mem_take hr))
    have HM := Lib.hid hm
    clear hkk hm
    by_cases hin : i < n
    · have hir : i < rs.length := by omega
      obtain ⟨gb, off, rfl, hlt, hc⟩ := (HR2.out.below hb).at_ (by omega)
      have hcc := hc i hir
      have hrp := HP.out _ (List.getElem_mem hir)
      have HNX := Lib.hid (mostZ_take hir)
      obtain ⟨r, hrr⟩ : ∃ r, r = rs[i] := ⟨_, rfl⟩
      rw [← hrr] at hcc hrp HNX
      have ht := hrp.2.2.2.2.2.2.2.2.1
      obtain ⟨L, W, B, Sl, Ce, Ro, Wi, Tr, sm⟩ := r
      have c0 := hcc 0 (by omega)
      have c1 := hcc 1 (by omega)
      have c2 := hcc 2 (by omega)
      have c3 := hcc 3 (by omega)
      have c4 := hcc 4 (by omega)
      have c5 := hcc 5 (by omega)
      have c6 := hcc 6 (by omega)
      have c7 := hcc 7 (by omega)
      have c8 := hcc 8 (by omega)
      simp [RuZ.c] at c0 c1 c2 c3 c4 c5 c6 c7 c8
      simp only at ht HNX
      clear hrr hrp hc hcc hlen hb
      go_upto_region 5 with (fail)
      clear c0 c1 c2 c3 c4 c5 c6 c7 c8
      obtain ⟨w3, hw3, hbk, hbl, hsz⟩ := box_new wr (ruC L W B Sl Ce Ro Wi Tr sm) 23
      change Code.wp _ _ _ _ (wr.alloc (.cells (ruC L W B Sl Ce Ro Wi Tr sm) 23))
      rw [hw3]
      obtain ⟨b3, hb3⟩ : ∃ b3, b3 = wr.heap.size := ⟨_, rfl⟩
      rw [← hb3] at hbk ⊢
      have k3 := hbk.rd
      have BK3 := Lib.hid hbk
      have B3 := Lib.hid (HBR.out.trans (hbl.mono HBR.out.size))
      clear hbk hbl hsz hw3 hb3 hlt
      go_upto_region 6 with (fail)
      obtain ⟨w4, hw4, hbk, hbl, hsz⟩ := box_new w3 (reqs3 Tr) 41
      change Code.wp _ _ _ _ (w3.alloc (.cells (reqs3 Tr) 41))
      rw [hw4]
      obtain ⟨b4, hb4⟩ : ∃ b4, b4 = w3.heap.size := ⟨_, rfl⟩
      rw [← hb4] at hbk ⊢
      have BK4 := Lib.hid hbk
      have B4 := Lib.hid hbl
      clear hbk hbl hsz hw4 hb4 k3
      go_loopg [3, 22] 3 (fun k s3 s22 wq => ∃ j : Nat, j ≤ 3 ∧ k = 3 - j ∧ s3 = .int .i64 (stepM m Tr j) ∧ s22 = .int .i64 (j : Int) ∧ Below w4.heap.size w4 wq)
      case atStart => exact ⟨0, by omega, by omega, rfl, rfl, Below.refl _ _⟩
      case round =>
        obtain ⟨j, hj, hjk, rfl, rfl, hbq⟩ := hrel
        have HJK := Lib.hid hjk
        have HBQ := Lib.hid (B4.out.trans (hbq.mono B4.out.size))
        have HBQ4 := Lib.hid hbq
        have k5 := (BK4.out.keep hbq).rd
        have hsm := step_bd hmb ht j
        clear hjk hbq
        obtain ⟨q, hq⟩ : ∃ q, q = stepM m Tr j := ⟨_, rfl⟩
        rw [← hq] at hsm ⊢
        have HQ := Lib.hid hq
        clear hq
        obtain hj0 | hj0 | hj0 | hj0 : j = 0 ∨ j = 1 ∨ j = 2 ∨ j = 3 := by omega
        · subst hj0
          have HN := Lib.hid (show stepM m Tr 1 = mx q 22 from by rw [HQ.out]; rfl)
          go_upto_region 8 with (fail)
          obtain ⟨w6, hw6, hbk, hbl, hsz⟩ := box_new wr (rqC 1 0) 41
          change Code.wp _ _ _ _ (wr.alloc (.cells (rqC 1 0) 41))
          rw [hw6]
          obtain ⟨b6, hb6⟩ : ∃ b6, b6 = wr.heap.size := ⟨_, rfl⟩
          rw [← hb6] at hbk ⊢
          have k6 := hbk.rd
          have k7 := (BK3.out.keep (HBQ.out.trans (hbl.mono HBQ.out.size))).rd
          have B6 := Lib.hid (HBQ4.out.trans (hbl.mono HBQ4.out.size))
          clear hbk hbl hsz hw6 hb6 k5
          go_wp2_with (go_at_call 21; ((with_reducible refine (large_check Tr _).mono ?_); rintro e w7 ⟨rfl, b7⟩; have B7 := Lib.hid (B6.out.trans (b7.mono B6.out.size)); clear b7))
          all_goals
            go_roundg (3 - (0 + 1))
            case measure => have := HJK.out; omega
            case rel =>
              refine ⟨0 + 1, by omega, by omega, ?_, by go_num, B7.out⟩
              rw [HN.out]
              unfold mx
              first | (rw [if_pos (by omega)]; done) | (rw [if_neg (by omega)]; done) | go_num
        · subst hj0
          have HN := Lib.hid (show stepM m Tr 2 = mx q 46 from by rw [HQ.out]; rfl)
          go_upto_region 8 with (fail)
          obtain ⟨w6, hw6, hbk, hbl, hsz⟩ := box_new wr (rqC 3 0) 41
          change Code.wp _ _ _ _ (wr.alloc (.cells (rqC 3 0) 41))
          rw [hw6]
          obtain ⟨b6, hb6⟩ : ∃ b6, b6 = wr.heap.size := ⟨_, rfl⟩
          rw [← hb6] at hbk ⊢
          have k6 := hbk.rd
          have k7 := (BK3.out.keep (HBQ.out.trans (hbl.mono HBQ.out.size))).rd
          have B6 := Lib.hid (HBQ4.out.trans (hbl.mono HBQ4.out.size))
          clear hbk hbl hsz hw6 hb6 k5
          go_wp2_with (go_at_call 21; ((with_reducible refine (large_stats Tr _).mono ?_); rintro e w7 ⟨rfl, b7⟩; have B7 := Lib.hid (B6.out.trans (b7.mono B6.out.size)); clear b7))
          all_goals
            go_roundg (3 - (1 + 1))
            case measure => have := HJK.out; omega
            case rel =>
              refine ⟨1 + 1, by omega, by omega, ?_, by go_num, B7.out⟩
              rw [HN.out]
              unfold mx
              first | (rw [if_pos (by omega)]; done) | (rw [if_neg (by omega)]; done) | go_num
        · subst hj0
          have HN := Lib.hid (show stepM m Tr 3 = mx q (7 + 81 * Tr) from by rw [HQ.out]; rfl)
          go_upto_region 8 with (fail)
          obtain ⟨w6, hw6, hbk, hbl, hsz⟩ := box_new wr (rqC 4 Tr) 41
          change Code.wp _ _ _ _ (wr.alloc (.cells (rqC 4 Tr) 41))
          rw [hw6]
          obtain ⟨b6, hb6⟩ : ∃ b6, b6 = wr.heap.size := ⟨_, rfl⟩
          rw [← hb6] at hbk ⊢
          have k6 := hbk.rd
          have k7 := (BK3.out.keep (HBQ.out.trans (hbl.mono HBQ.out.size))).rd
          have B6 := Lib.hid (HBQ4.out.trans (hbl.mono HBQ4.out.size))
          clear hbk hbl hsz hw6 hb6 k5
          go_wp2_with (go_at_call 21; ((with_reducible refine (large_top Tr ht _).mono ?_); rintro e w7 ⟨rfl, b7⟩; have B7 := Lib.hid (B6.out.trans (b7.mono B6.out.size)); clear b7))
          all_goals
            go_roundg (3 - (2 + 1))
            case measure => have := HJK.out; omega
            case rel =>
              refine ⟨2 + 1, by omega, by omega, ?_, by go_num, B7.out⟩
              rw [HN.out]
              unfold mx
              first | (rw [if_pos (by omega)]; done) | (rw [if_neg (by omega)]; done) | go_num
        · subst hj0
          have HN := Lib.hid (show mostZ (rs.take (i + 1)) = q from by rw [HNX.out, HQ.out, HM.out])
          have BQ := Lib.hid (B3.out.trans (HBQ.out.mono B3.out.size))
          clear k5
          go_wp2
          go_roundg (n - (i + 1))
          case measure => have := HK.out; omega
          case rel =>
            exact ⟨i + 1, by omega, by omega, by rw [HN.out], by go_num, BQ.out⟩
    · have hie : i = n := by omega
      subst hie
      have HEQ := Lib.hid (show m = mostZ rs from by rw [HM.out, List.take_of_length_le (by omega)])
      have B5 := Lib.hid (BL1.out.trans (HBR.out.mono BL1.out.size))
      clear hlen hb
      go_wp2
      go_ret
      exact ⟨by rw [← HEQ.out]; rfl, B5.out⟩
end Go.Proofs.Ytfpknklnbgmflaa
