/- Equality of two rules, as the program asks it; whether one was asked already. -/
import Derived.Test.YtfpknklnbgmflaaCfH
import Derived.Laws.StructEq
import Derived.WalkKit
namespace Go.Proofs.Ytfpknklnbgmflaa
set_option linter.unusedSimpArgs false
set_option linter.unusedVariables false
open Go.ChangeShapes Go.WideShapes Go.ChangeAt Go.RowKit
theorem rule_equal (L W B Sl Ce Ro Wi Tr L' W' B' Sl' Ce' Ro' Wi' Tr' : Int) (sm sm' : Bool) (w : World) :
    (Op.equalIn 10000 23 (.agg #[.int .i64 L, .int .i64 W, .int .i64 B, .int .i64 Sl, .int .i64 Ce, .int .i64 Ro, .int .i64 Wi, .int .i64 Tr, .bool sm]) (.agg #[.int .i64 L', .int .i64 W', .int .i64 B', .int .i64 Sl', .int .i64 Ce', .int .i64 Ro', .int .i64 Wi', .int .i64 Tr', .bool sm'])).run Try.prog w = .ok (decide (L = L' ∧ W = W' ∧ B = B' ∧ Sl = Sl' ∧ Ce = Ce' ∧ Ro = Ro' ∧ Wi = Wi' ∧ Tr = Tr' ∧ sm = sm')) w := by
  have hS : Try.prog.underlying 23 = some (.struct (Try.prog.fieldsOf 23)) := by kernel_rfl
  have hp : Try.prog.stoodInHeld 23 = false := by kernel_rfl
  rw [show (10000 : Nat) = 9999 + 1 from rfl, run_equalIn_agg w 9999 23 _ _ hS hp]
  simp only [Program.fieldsOf, Try.underlying23]
  go_simp
  have hb : (sm == sm') = decide (sm = sm') := by cases sm <;> cases sm' <;> rfl
  by_cases hL : L = L'
  case neg => simp [hL]
  by_cases hW : W = W'
  case neg => simp [hW]
  by_cases hB : B = B'
  case neg => simp [hB]
  by_cases hSl : Sl = Sl'
  case neg => simp [hSl]
  by_cases hCe : Ce = Ce'
  case neg => simp [hCe]
  by_cases hRo : Ro = Ro'
  case neg => simp [hRo]
  by_cases hWi : Wi = Wi'
  case neg => simp [hWi]
  by_cases hTr : Tr = Tr'
  case neg => simp [hTr]
  by_cases hs : sm = sm' <;> simp [hb, hs, hL, hW, hB, hSl, hCe, hRo, hWi, hTr]
theorem RdRu.take {w : World} {A : Option Addr} {n c : Nat} {rs : List RuZ} (h : RdRu w A n c rs) {i : Nat} (hi : i ≤ n) : RdRu w A i c (rs.take i) :=
  ⟨by have := h.cap; omega, h.max, by rw [List.length_take, h.len]; omega, fun h0 => by
    obtain ⟨b, off, e, hlt, hc⟩ := h.at_ (by omega)
    refine ⟨b, off, e, hlt, fun k hk j hj => ?_⟩
    have hk' : k < i := by rw [List.length_take] at hk; omega
    rw [hc k (by rw [h.len]; omega) j hj, List.getElem_take], fun r hr => h.ok r (List.mem_of_mem_take hr)⟩
theorem RuZ.eq_iff (a b : RuZ) : (a.L = b.L ∧ a.W = b.W ∧ a.B = b.B ∧ a.Sl = b.Sl ∧ a.Ce = b.Ce ∧ a.Ro = b.Ro ∧ a.Wi = b.Wi ∧ a.Tr = b.Tr ∧ a.sm = b.sm) ↔ a = b := by
  cases a; cases b; simp
set_option maxHeartbeats 4000000 in
set_option maxRecDepth 100000 in
theorem asked_any (A : Option Addr) (n c : Nat) (rs : List RuZ) (r0 : RuZ) (v : Bool) (hv : v = true ↔ r0 ∈ rs) (w : World) (hr : RdRu w A n c rs) :
    Calls Try.prog 28 #[.slice A n c, ruV r0.L r0.W r0.B r0.Sl r0.Ce r0.Ro r0.Wi r0.Tr r0.sm] w fun e w' => e = .returned (.bool v) ∧ Below w.heap.size w w' := by
  have hcp := hr.cap
  have hmx := hr.max
  unfold maxLen at hmx
  have HR := Lib.hid hr
  clear hr
  obtain ⟨L0, W0, B0, S0, C0, R0, I0, T0, s0⟩ := r0
  have HV := Lib.hid hv
  clear hv
  simp only
  go_enter Try.func28, Try.ntmps28
  go_upto_region 1 with (fail)
  obtain ⟨w1, hw1, hbk, hbl, hsz1⟩ := box_new w (ruC L0 W0 B0 S0 C0 R0 I0 T0 s0) 23
  change Code.wp _ _ _ _ (w.alloc (.cells (ruC L0 W0 B0 S0 C0 R0 I0 T0 s0) 23))
  rw [hw1]
  obtain ⟨b0, hb0⟩ : ∃ b0, b0 = w.heap.size := ⟨_, rfl⟩
  rw [← hb0] at hbk ⊢
  have BK0 := Lib.hid hbk
  have BL1 := Lib.hid hbl
  have HR2 := Lib.hid (HR.out.below hbl)
  clear hbk hbl hsz1 hw1 hb0
  go_upto_region 2 with (fail)
  go_loopg [9] n (fun k s9 wr => ∃ i : Nat, i ≤ n ∧ k = n - i ∧ s9 = .int .i64 (i : Int) ∧ Hid (RuZ.mk L0 W0 B0 S0 C0 R0 I0 T0 s0 ∉ rs.take i) ∧ Below w1.heap.size w1 wr)
  case atStart => exact ⟨0, by omega, by omega, rfl, Lib.hid (by simp), Below.refl _ _⟩
  case round =>
    obtain ⟨i, hi, hkk, rfl, hno, hb⟩ := hrel
    have HK := Lib.hid hkk
    have HBR := Lib.hid hb
    have hlen := HR.out.len
    clear hkk
    by_cases hin : i < n
    · have hir : i < rs.length := by omega
      obtain ⟨gb, off, rfl, hlt, hc⟩ := (HR2.out.below hb).at_ (by omega)
      have hcc := hc i hir
      have HT := Lib.hid (List.take_succ_eq_append_getElem hir)
      have HM := Lib.hid (List.getElem_mem hir)
      obtain ⟨r, hrr⟩ : ∃ r, r = rs[i] := ⟨_, rfl⟩
      rw [← hrr] at hcc HT HM
      obtain ⟨L, W, B, Sl, Ce, Ro, Wi, Tr, sm⟩ := r
      have c0 := hcc 0 (by omega)
      have c1 := hcc 1 (by omega)
      have c2 := hcc 2 (by omega)
      have c3 := hcc 3 (by omega)
      have c4 := hcc 4 (by omega)
      have c5 := hcc 5 (by omega)
      have c6 := hcc 6 (by omega)
      have c7 := hcc 7 (by omega)
      have c8 := hcc 8 (by omega)
      simp [RuZ.c] at c0 c1 c2 c3 c4 c5 c6 c7 c8
      clear hrr hc hcc hlen hb
      go_upto_region 4 with (fail)
      clear c0 c1 c2 c3 c4 c5 c6 c7 c8
      obtain ⟨w3, hw3, hbk, hbl, hsz⟩ := box_new wr (ruC L W B Sl Ce Ro Wi Tr sm) 23
      change Code.wp _ _ _ _ (wr.alloc (.cells (ruC L W B Sl Ce Ro Wi Tr sm) 23))
      rw [hw3]
      obtain ⟨b3, hb3⟩ : ∃ b3, b3 = wr.heap.size := ⟨_, rfl⟩
      rw [← hb3] at hbk ⊢
      have k3 := hbk.rd
      have B3 := Lib.hid (HBR.out.trans (hbl.mono HBR.out.size))
      have k0 := (BK0.out.keep B3.out).rd
      clear hbk hbl hsz hw3 hb3 hlt
      have he := rule_equal L W B Sl Ce Ro Wi Tr L0 W0 B0 S0 C0 R0 I0 T0 sm s0
      obtain ⟨q, hq⟩ : ∃ q, q = decide (L = L0 ∧ W = W0 ∧ B = B0 ∧ Sl = S0 ∧ Ce = C0 ∧ Ro = R0 ∧ Wi = I0 ∧ Tr = T0 ∧ sm = s0) := ⟨_, rfl⟩
      simp only [← hq] at he
      have HQ := Lib.hid (show q = true ↔ RuZ.mk L W B Sl Ce Ro Wi Tr sm = RuZ.mk L0 W0 B0 S0 C0 R0 I0 T0 s0 from by rw [hq, decide_eq_true_iff]; exact RuZ.eq_iff ⟨L, W, B, Sl, Ce, Ro, Wi, Tr, sm⟩ ⟨L0, W0, B0, S0, C0, R0, I0, T0, s0⟩)
      clear hq
      cases q
      · go_wp2
        go_roundg (n - (i + 1))
        case measure => have := HK.out; omega
        case rel =>
          refine ⟨i + 1, by omega, by omega, by go_num, Lib.hid ?_, B3.out⟩
          rw [HT.out, List.mem_append]
          rintro (h | h)
          · exact hno.out h
          · exact absurd (HQ.out.2 (List.mem_singleton.1 h).symm) (by simp)
      · go_wp2
        go_ret
        exact ⟨congrArg (fun z => Ending.returned (.bool z)) (HV.out.2 (by rw [← HQ.out.1 (by trivial)]; exact HM.out)).symm, BL1.out.trans (B3.out.mono BL1.out.size)⟩
    · have hie : i = n := by omega
      subst hie
      have HN := Lib.hid (show RuZ.mk L0 W0 B0 S0 C0 R0 I0 T0 s0 ∉ rs from by have := hno.out; rwa [List.take_of_length_le (by omega)] at this)
      have B5 := Lib.hid (BL1.out.trans (HBR.out.mono BL1.out.size))
      clear hlen hb
      go_wp2
      go_ret
      exact ⟨congrArg (fun z => Ending.returned (.bool z)) (Bool.eq_false_iff.2 (fun h => HN.out (HV.out.1 h))).symm, B5.out⟩
end Go.Proofs.Ytfpknklnbgmflaa
