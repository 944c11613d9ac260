/- The contracts of layer 17 (config): may a configuration be, by the document. -/
import Derived.Test.YtfpknklnbgmflaaCfJ
import Derived.Test.YtfpknklnbgmflaaCfC
namespace Go.Proofs.Ytfpknklnbgmflaa
set_option linter.unusedSimpArgs false
set_option linter.unusedVariables false
open Go.ChangeShapes Go.WideShapes Go.ChangeAt Go.RowKit
open Ar (inR)
theorem step_le (m t X : Int) : stepM m t 3 ≤ X ↔ m ≤ X ∧ 46 ≤ X ∧ 7 + 81 * t ≤ X := by
  show mx (mx (mx m 22) 46) (7 + 81 * t) ≤ X ↔ _
  unfold mx
  repeat' split
  all_goals omega
theorem fold_le (X : Int) : ∀ (l : List RuZ) (m : Int), l.foldl (fun m r => stepM m r.Tr 3) m ≤ X ↔ m ≤ X ∧ ∀ r ∈ l, 46 ≤ X ∧ 7 + 81 * r.Tr ≤ X
  | [], m => by simp
  | a :: l, m => by
    rw [List.foldl_cons, fold_le X l, step_le]
    simp only [List.mem_cons, forall_eq_or_imp]
    constructor
    · rintro ⟨⟨h1, h2, h3⟩, h4⟩; exact ⟨h1, ⟨h2, h3⟩, h4⟩
    · rintro ⟨h1, ⟨h2, h3⟩, h4⟩; exact ⟨⟨h1, h2, h3⟩, h4⟩
theorem most_le {l : List RuZ} (h : 0 < l.length) (X : Int) : mostZ l ≤ X ↔ 46 ≤ X ∧ ∀ r ∈ l, 7 + 81 * r.Tr ≤ X := by
  unfold mostZ
  rw [fold_le]
  constructor
  · rintro ⟨_, h2⟩
    exact ⟨(h2 _ (List.getElem_mem h)).1, fun r hr => (h2 r hr).2⟩
  · rintro ⟨h1, h2⟩
    exact ⟨by omega, fun r hr => ⟨h1, h2 r hr⟩⟩
set_option maxHeartbeats 16000000 in
set_option maxRecDepth 100000 in
theorem lright_any (Bu Co Ou : Int) (A : Option Addr) (n c : Nat) (rs : List RuZ) (v : Bool) (hv : v = true ↔ rightZ Bu Co Ou rs) (w : World) (hr : RdRu w A n c rs) :
    Calls Try.prog 15 #[.agg #[.int .i64 Bu, .int .i64 Co, .int .i64 Ou, .slice A n c]] w fun e w' => e = .returned (.bool v) ∧ Below w.heap.size w w' := by
  have hcp := hr.cap
  have hmx := hr.max
  unfold maxLen at hmx
  have HR := Lib.hid hr
  have HV := Lib.hid hv
  have HF := Lib.hid (fun (h : ¬ rightZ Bu Co Ou rs) => show v = false from Bool.eq_false_iff.2 (fun e => h (hv.1 e)))
  have hlen := hr.len
  clear hr hv
  by_cases h0 : Co < 1
  · have HN := Lib.hid (HF.out (fun rz => by have := rz.1; omega))
    have d0 : decide (Co < 1) = true := decide_eq_true h0
    clear hlen h0
    go_enter Try.func15, Try.ntmps15
    go_upto_region 1 with (fail)
    obtain ⟨w1, hw1, hbk, hbl, hsz⟩ := box_new w (#[.int .i64 Bu, .int .i64 Co, .int .i64 Ou, .slice A n c]) 29
    change Code.wp _ _ _ _ (w.alloc (.cells (#[.int .i64 Bu, .int .i64 Co, .int .i64 Ou, .slice A n c]) 29))
    rw [hw1]
    obtain ⟨b1, hb1⟩ : ∃ b1, b1 = w.heap.size := ⟨_, rfl⟩
    rw [← hb1] at hbk ⊢
    have k0 := hbk.rd
    have BK1 := Lib.hid hbk
    have BL1 := Lib.hid hbl
    have HR1 := Lib.hid (HR.out.below hbl)
    clear hbk hbl hsz hw1 hb1
    have hund : undef = Value.tuple #[] := rfl
    go_wp2
    go_ret
    exact ⟨congrArg (fun z => Ending.returned (.bool z)) HN.out.symm, BL1.out⟩
  have d0 : decide (Co < 1) = false := decide_eq_false h0
  by_cases h1 : 16 < Co
  · have HN := Lib.hid (HF.out (fun rz => by have := rz.1; omega))
    have d1 : decide (16 < Co) = true := decide_eq_true h1
    clear hlen h1
    go_enter Try.func15, Try.ntmps15
    go_upto_region 1 with (fail)
    obtain ⟨w1, hw1, hbk, hbl, hsz⟩ := box_new w (#[.int .i64 Bu, .int .i64 Co, .int .i64 Ou, .slice A n c]) 29
    change Code.wp _ _ _ _ (w.alloc (.cells (#[.int .i64 Bu, .int .i64 Co, .int .i64 Ou, .slice A n c]) 29))
    rw [hw1]
    obtain ⟨b1, hb1⟩ : ∃ b1, b1 = w.heap.size := ⟨_, rfl⟩
    rw [← hb1] at hbk ⊢
    have k0 := hbk.rd
    have BK1 := Lib.hid hbk
    have BL1 := Lib.hid hbl
    have HR1 := Lib.hid (HR.out.below hbl)
    clear hbk hbl hsz hw1 hb1
    have hund : undef = Value.tuple #[] := rfl
    go_wp2
    go_ret
    exact ⟨congrArg (fun z => Ending.returned (.bool z)) HN.out.symm, BL1.out⟩
  have d1 : decide (16 < Co) = false := decide_eq_false h1
  by_cases h2 : (n : Int) < 1
  · have HN := Lib.hid (HF.out (fun rz => by have := rz.2.1; omega))
    have d2 : decide ((n : Int) < 1) = true := decide_eq_true h2
    clear hlen h2
    go_enter Try.func15, Try.ntmps15
    go_upto_region 1 with (fail)
    obtain ⟨w1, hw1, hbk, hbl, hsz⟩ := box_new w (#[.int .i64 Bu, .int .i64 Co, .int .i64 Ou, .slice A n c]) 29
    change Code.wp _ _ _ _ (w.alloc (.cells (#[.int .i64 Bu, .int .i64 Co, .int .i64 Ou, .slice A n c]) 29))
    rw [hw1]
    obtain ⟨b1, hb1⟩ : ∃ b1, b1 = w.heap.size := ⟨_, rfl⟩
    rw [← hb1] at hbk ⊢
    have k0 := hbk.rd
    have BK1 := Lib.hid hbk
    have BL1 := Lib.hid hbl
    have HR1 := Lib.hid (HR.out.below hbl)
    clear hbk hbl hsz hw1 hb1
    have hund : undef = Value.tuple #[] := rfl
    go_wp2
    go_ret
    exact ⟨congrArg (fun z => Ending.returned (.bool z)) HN.out.symm, BL1.out⟩
  have d2 : decide ((n : Int) < 1) = false := decide_eq_false h2
  by_cases h3 : 8 < (n : Int)
  · have HN := Lib.hid (HF.out (fun rz => by have := rz.2.1; omega))
    have d3 : decide (8 < (n : Int)) = true := decide_eq_true h3
    clear hlen h3
    go_enter Try.func15, Try.ntmps15
    go_upto_region 1 with (fail)
    obtain ⟨w1, hw1, hbk, hbl, hsz⟩ := box_new w (#[.int .i64 Bu, .int .i64 Co, .int .i64 Ou, .slice A n c]) 29
    change Code.wp _ _ _ _ (w.alloc (.cells (#[.int .i64 Bu, .int .i64 Co, .int .i64 Ou, .slice A n c]) 29))
    rw [hw1]
    obtain ⟨b1, hb1⟩ : ∃ b1, b1 = w.heap.size := ⟨_, rfl⟩
    rw [← hb1] at hbk ⊢
    have k0 := hbk.rd
    have BK1 := Lib.hid hbk
    have BL1 := Lib.hid hbl
    have HR1 := Lib.hid (HR.out.below hbl)
    clear hbk hbl hsz hw1 hb1
    have hund : undef = Value.tuple #[] := rfl
    go_wp2
    go_ret
    exact ⟨congrArg (fun z => Ending.returned (.bool z)) HN.out.symm, BL1.out⟩
  have d3 : decide (8 < (n : Int)) = false := decide_eq_false h3
  by_cases h4 : Bu < 1
  · have HN := Lib.hid (HF.out (fun rz => by have := rz.2.2.1; omega))
    have d4 : decide (Bu < 1) = true := decide_eq_true h4
    clear hlen h4
    go_enter Try.func15, Try.ntmps15
    go_upto_region 1 with (fail)
    obtain ⟨w1, hw1, hbk, hbl, hsz⟩ := box_new w (#[.int .i64 Bu, .int .i64 Co, .int .i64 Ou, .slice A n c]) 29
    change Code.wp _ _ _ _ (w.alloc (.cells (#[.int .i64 Bu, .int .i64 Co, .int .i64 Ou, .slice A n c]) 29))
    rw [hw1]
    obtain ⟨b1, hb1⟩ : ∃ b1, b1 = w.heap.size := ⟨_, rfl⟩
    rw [← hb1] at hbk ⊢
    have k0 := hbk.rd
    have BK1 := Lib.hid hbk
    have BL1 := Lib.hid hbl
    have HR1 := Lib.hid (HR.out.below hbl)
    clear hbk hbl hsz hw1 hb1
    have hund : undef = Value.tuple #[] := rfl
    go_wp2
    go_ret
    exact ⟨congrArg (fun z => Ending.returned (.bool z)) HN.out.symm, BL1.out⟩
  have d4 : decide (Bu < 1) = false := decide_eq_false h4
  by_cases h5 : 4294967296 < Bu
  · have HN := Lib.hid (HF.out (fun rz => by have := rz.2.2.1; omega))
    have d5 : decide (4294967296 < Bu) = true := decide_eq_true h5
    clear hlen h5
    go_enter Try.func15, Try.ntmps15
    go_upto_region 1 with (fail)
    obtain ⟨w1, hw1, hbk, hbl, hsz⟩ := box_new w (#[.int .i64 Bu, .int .i64 Co, .int .i64 Ou, .slice A n c]) 29
    change Code.wp _ _ _ _ (w.alloc (.cells (#[.int .i64 Bu, .int .i64 Co, .int .i64 Ou, .slice A n c]) 29))
    rw [hw1]
    obtain ⟨b1, hb1⟩ : ∃ b1, b1 = w.heap.size := ⟨_, rfl⟩
    rw [← hb1] at hbk ⊢
    have k0 := hbk.rd
    have BK1 := Lib.hid hbk
    have BL1 := Lib.hid hbl
    have HR1 := Lib.hid (HR.out.below hbl)
    clear hbk hbl hsz hw1 hb1
    have hund : undef = Value.tuple #[] := rfl
    go_wp2
    go_ret
    exact ⟨congrArg (fun z => Ending.returned (.bool z)) HN.out.symm, BL1.out⟩
  have d5 : decide (4294967296 < Bu) = false := decide_eq_false h5
  by_cases h6 : 65536 < Ou
  · have HN := Lib.hid (HF.out (fun rz => by have := rz.2.2.2.2.2.1; omega))
    have d6 : decide (65536 < Ou) = true := decide_eq_true h6
    clear hlen h6
    go_enter Try.func15, Try.ntmps15
    go_upto_region 1 with (fail)
    obtain ⟨w1, hw1, hbk, hbl, hsz⟩ := box_new w (#[.int .i64 Bu, .int .i64 Co, .int .i64 Ou, .slice A n c]) 29
    change Code.wp _ _ _ _ (w.alloc (.cells (#[.int .i64 Bu, .int .i64 Co, .int .i64 Ou, .slice A n c]) 29))
    rw [hw1]
    obtain ⟨b1, hb1⟩ : ∃ b1, b1 = w.heap.size := ⟨_, rfl⟩
    rw [← hb1] at hbk ⊢
    have k0 := hbk.rd
    have BK1 := Lib.hid hbk
    have BL1 := Lib.hid hbl
    have HR1 := Lib.hid (HR.out.below hbl)
    clear hbk hbl hsz hw1 hb1
    have hund : undef = Value.tuple #[] := rfl
    go_wp2
    go_ret
    exact ⟨congrArg (fun z => Ending.returned (.bool z)) HN.out.symm, BL1.out⟩
  have d6 : decide (65536 < Ou) = false := decide_eq_false h6
  by_cases h7 : Ou < 46
  · have HN := Lib.hid (HF.out (fun rz => by have := ((most_le (by have := rz.2.1; omega) Ou).1 rz.2.2.2.2.1).1; omega))
    have d7 : decide (Ou < 46) = true := decide_eq_true h7
    clear hlen h7
    go_enter Try.func15, Try.ntmps15
    go_upto_region 1 with (fail)
    obtain ⟨w1, hw1, hbk, hbl, hsz⟩ := box_new w (#[.int .i64 Bu, .int .i64 Co, .int .i64 Ou, .slice A n c]) 29
    change Code.wp _ _ _ _ (w.alloc (.cells (#[.int .i64 Bu, .int .i64 Co, .int .i64 Ou, .slice A n c]) 29))
    rw [hw1]
    obtain ⟨b1, hb1⟩ : ∃ b1, b1 = w.heap.size := ⟨_, rfl⟩
    rw [← hb1] at hbk ⊢
    have k0 := hbk.rd
    have BK1 := Lib.hid hbk
    have BL1 := Lib.hid hbl
    have HR1 := Lib.hid (HR.out.below hbl)
    clear hbk hbl hsz hw1 hb1
    have hund : undef = Value.tuple #[] := rfl
    go_wp2
    go_ret
    exact ⟨congrArg (fun z => Ending.returned (.bool z)) HN.out.symm, BL1.out⟩
  have d7 : decide (Ou < 46) = false := decide_eq_false h7
  have hC : 1 ≤ Co ∧ Co ≤ 16 := by omega
  have hN : 1 ≤ n ∧ n ≤ 8 := by omega
  have hB : 1 ≤ Bu ∧ Bu ≤ 4294967296 := by omega
  have hO : 46 ≤ Ou ∧ Ou ≤ 65536 := by omega
  clear h0 h1 h2 h3 h4 h5 h6 h7
  obtain ⟨P, hP⟩ : ∃ P, Co * Ou = P := ⟨_, rfl⟩
  have hPb : 0 ≤ P ∧ P ≤ 1048576 := by
    rw [← hP]
    exact ⟨Int.mul_nonneg (by omega) (by omega), by have := Int.mul_le_mul hC.2 hO.2 (by omega) (by omega); omega⟩
  have hPw : IntKind.i64.wrap (Co * Ou) = P := by rw [hP, IntKind.wrap_i64]; omega
  have HPP := Lib.hid hP
  clear hP
  go_enter Try.func15, Try.ntmps15
  go_upto_region 1 with (fail)
  obtain ⟨w1, hw1, hbk, hbl, hsz⟩ := box_new w (#[.int .i64 Bu, .int .i64 Co, .int .i64 Ou, .slice A n c]) 29
  change Code.wp _ _ _ _ (w.alloc (.cells (#[.int .i64 Bu, .int .i64 Co, .int .i64 Ou, .slice A n c]) 29))
  rw [hw1]
  obtain ⟨b1, hb1⟩ : ∃ b1, b1 = w.heap.size := ⟨_, rfl⟩
  rw [← hb1] at hbk ⊢
  have k0 := hbk.rd
  have BK1 := Lib.hid hbk
  have BL1 := Lib.hid hbl
  have HR1 := Lib.hid (HR.out.below hbl)
  clear hbk hbl hsz hw1 hb1
  go_upto_region 5 with (fail)
  clear k0 hPw
  go_loopg [3, 54] n (fun k s3 s54 wr => ∃ i : Nat, i ≤ n ∧ k = n - i ∧ s3 = .int .i64 (P + sumB (rs.take i)) ∧ s54 = .int .i64 (i : Int) ∧ Hid (∀ r ∈ rs.take i, r.p ∧ 7 + 81 * r.Tr ≤ Ou) ∧ Below w1.heap.size w1 wr)
  case atStart => exact ⟨0, by omega, by omega, by simp [sumB], rfl, Lib.hid (by simp), Below.refl _ _⟩
  case round =>
    obtain ⟨i, hi, hkk, rfl, rfl, hall, hb⟩ := hrel
    have HK := Lib.hid hkk
    have HBR := Lib.hid hb
    have k1 := (BK1.out.keep hb).rd
    obtain ⟨s, hs⟩ : ∃ s, s = sumB (rs.take i) := ⟨_, rfl⟩
    rw [← hs]
    have hsb : 0 ≤ s ∧ s ≤ 144000000 := by
      have := sumB_bd (rs.take i) (fun r hr => (hall.out r hr).1)
      rw [← hs, List.length_take] at this
      omega
    have HS := Lib.hid hs
    clear hkk hs
    by_cases hin : i < n
    · have hir : i < rs.length := by omega
      obtain ⟨gb, off, rfl, hlt, hc⟩ := (HR1.out.below hb).at_ (by omega)
      have hcc := hc i hir
      have HT := Lib.hid (List.take_succ_eq_append_getElem hir)
      have HM := Lib.hid (List.getElem_mem hir)
      have HNX := Lib.hid (sumB_take hir)
      obtain ⟨r, hrr⟩ : ∃ r, r = rs[i] := ⟨_, rfl⟩
      rw [← hrr] at hcc HT HM HNX
      obtain ⟨L, W, B, Sl, Ce, Ro, Wi, Tr, sm⟩ := r
      have c0 := hcc 0 (by omega)
      have c1 := hcc 1 (by omega)
      have c2 := hcc 2 (by omega)
      have c3 := hcc 3 (by omega)
      have c4 := hcc 4 (by omega)
      have c5 := hcc 5 (by omega)
      have c6 := hcc 6 (by omega)
      have c7 := hcc 7 (by omega)
      have c8 := hcc 8 (by omega)
      simp [RuZ.c] at c0 c1 c2 c3 c4 c5 c6 c7 c8
      have HLEN := Lib.hid (show 0 < rs.length from by omega)
      clear hrr hc hcc hb hlen
      go_upto_region 7 with (fail)
      clear c0 c1 c2 c3 c4 c5 c6 c7 c8 k1
      obtain ⟨w3, hw3, hbk, hbl, hsz⟩ := box_new wr (ruC L W B Sl Ce Ro Wi Tr sm) 23
      change Code.wp _ _ _ _ (wr.alloc (.cells (ruC L W B Sl Ce Ro Wi Tr sm) 23))
      rw [hw3]
      obtain ⟨b3, hb3⟩ : ∃ b3, b3 = wr.heap.size := ⟨_, rfl⟩
      rw [← hb3] at hbk ⊢
      have k3 := hbk.rd
      have B3 := Lib.hid (HBR.out.trans (hbl.mono HBR.out.size))
      have BK3 := Lib.hid hbk
      have BK5 := Lib.hid (BK1.out.keep B3.out)
      have k1 := BK5.out.rd
      clear hbk hbl hsz hw3 hb3 hlt
      by_cases hpr : (RuZ.mk L W B Sl Ce Ro Wi Tr sm).p
      · have CL := Lib.hid (fun w => (rl_any L W B Sl Ce Ro Wi Tr sm w).1 hpr)
        have htr : 1 ≤ Tr ∧ Tr ≤ 64 := hpr.2.2.2.2.2.2.2.2.1
        have hbb := bytes_bd hpr
        have CY := Lib.hid (fun w => byB_any L W B Sl Ce Ro Wi Tr sm hpr.2.2.2.1 hpr.2.2.2.2.2.2.1 hpr.2.2.2.2.2.2.2.1 hpr.2.2.2.2.2.1 hpr.2.2.2.2.2.2.2.2.1 w)
        obtain ⟨y, hy⟩ : ∃ y, bytesZ Sl Ce Ro Wi Tr = y := ⟨_, rfl⟩
        have hy2 : (RuZ.mk L W B Sl Ce Ro Wi Tr sm).bytes = y := hy
        rw [hy] at CY
        rw [hy2] at hbb HNX
        have HPR := Lib.hid hpr
        clear hpr hy hy2
        by_cases ho : Ou < 7 + 81 * Tr
        · have HN := Lib.hid (HF.out (fun rz => by have := ((most_le HLEN.out Ou).1 rz.2.2.2.2.1).2 _ HM.out; simp only at this; omega))
          have dt : decide (Ou < 7 + 81 * Tr) = true := decide_eq_true ho
          clear ho
          go_wp2_with (go_at_call 11; ((with_reducible refine (CL.out _).mono ?_); rintro e w4 ⟨rfl, b4⟩; have B4 := Lib.hid (B3.out.trans (b4.mono B3.out.size)); have k4 := (BK3.out.keep b4).rd; have k5 := (BK5.out.keep b4).rd; have BK4 := Lib.hid (BK3.out.keep b4); clear b4 k3 k1))
          go_ret
          exact ⟨congrArg (fun z => Ending.returned (.bool z)) HN.out.symm, BL1.out.trans (B4.out.mono BL1.out.size)⟩
        · have dt : decide (Ou < 7 + 81 * Tr) = false := decide_eq_false ho
          have HO := Lib.hid ho
          clear ho
          go_wp2_with (first
            | (go_at_call 11; ((with_reducible refine (CL.out _).mono ?_); rintro e w4 ⟨rfl, b4⟩; have B4 := Lib.hid (B3.out.trans (b4.mono B3.out.size)); have k4 := (BK3.out.keep b4).rd; have k5 := (BK5.out.keep b4).rd; have BK4 := Lib.hid (BK3.out.keep b4); clear b4 k3 k1))
            | (go_at_call 13; ((with_reducible refine (CY.out _).mono ?_); rintro e w6 ⟨rfl, b6⟩; have B6 := Lib.hid (B4.out.trans (b6.mono B4.out.size)); clear b6)))
          go_roundg (n - (i + 1))
          case measure => have := HK.out; omega
          case rel =>
            refine ⟨i + 1, by omega, by omega, ?_, by go_num, Lib.hid ?_, B6.out⟩
            · rw [HNX.out, ← HS.out]
              go_num
            · intro r hr
              rw [HT.out, List.mem_append] at hr
              rcases hr with h | h
              · exact hall.out r h
              · rw [List.mem_singleton] at h
                subst h
                exact ⟨HPR.out, by have := HO.out; simp only; omega⟩
      · have CL := Lib.hid (fun w => (rl_any L W B Sl Ce Ro Wi Tr sm w).2 hpr)
        have HN := Lib.hid (HF.out (fun rz => hpr (rz.2.2.2.1 _ HM.out)))
        have hund : undef = Value.tuple #[] := rfl
        clear hpr
        go_wp2_with (go_at_call 11; ((with_reducible refine (CL.out _).mono ?_); rintro e w4 ⟨rfl, b4⟩; have B4 := Lib.hid (B3.out.trans (b4.mono B3.out.size)); have k4 := (BK3.out.keep b4).rd; have k5 := (BK5.out.keep b4).rd; have BK4 := Lib.hid (BK3.out.keep b4); clear b4 k3 k1))
        go_ret
        exact ⟨congrArg (fun z => Ending.returned (.bool z)) HN.out.symm, BL1.out.trans (B4.out.mono BL1.out.size)⟩
    · have hie : i = n := by omega
      subst hie
      have hsr : s = sumB rs := by rw [HS.out, List.take_of_length_le (by omega)]
      have B5 := Lib.hid (BL1.out.trans (HBR.out.mono BL1.out.size))
      have HALL := Lib.hid (show ∀ r ∈ rs, r.p ∧ 7 + 81 * r.Tr ≤ Ou from fun r hr => hall.out r (by rw [List.take_of_length_le (by omega)]; exact hr))
      have HDV := Lib.hid (show decide (P + s ≤ Bu) = v from by
        by_cases h : P + s ≤ Bu
        · rw [decide_eq_true h]
          exact (HV.out.2 ⟨hC, by omega, hB, fun r hr => (HALL.out r hr).1, (most_le (by omega) Ou).2 ⟨by omega, fun r hr => (HALL.out r hr).2⟩, by omega, by rw [HPP.out, ← hsr]; exact h⟩).symm
        · rw [decide_eq_false h]
          exact (HF.out (fun rz => h (by have := rz.2.2.2.2.2.2; rw [HPP.out, ← hsr] at this; exact this))).symm)
      clear hlen hb hsr
      go_wp2
      go_ret
      exact ⟨by first | exact congrArg (fun z => Ending.returned (.bool z)) HDV.out | rfl, B5.out⟩
end Go.Proofs.Ytfpknklnbgmflaa
