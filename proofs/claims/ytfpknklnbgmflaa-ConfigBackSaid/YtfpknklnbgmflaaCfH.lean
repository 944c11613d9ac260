/- The contracts of layer 17 (config): slices of rules, and what they take. -/
import Derived.Test.YtfpknklnbgmflaaCfE
import Derived.Test.YtfpknklnbgmflaaRule
namespace Go.Proofs.Ytfpknklnbgmflaa
set_option linter.unusedSimpArgs false
set_option linter.unusedVariables false
open Go.ChangeShapes Go.WideShapes Go.ChangeAt Go.RowKit
open Ar (inR)
/-- a rule. -/
structure RuZ where
  L : Int
  W : Int
  B : Int
  Sl : Int
  Ce : Int
  Ro : Int
  Wi : Int
  Tr : Int
  sm : Bool
def RuZ.c (r : RuZ) : Array Value := ruC r.L r.W r.B r.Sl r.Ce r.Ro r.Wi r.Tr r.sm
def RuZ.p (r : RuZ) : Prop := ruleP r.L r.W r.B r.Sl r.Ce r.Ro r.Wi r.Tr r.sm
def RuZ.ok (r : RuZ) : Prop := RuleOK r.L r.W r.B r.Sl r.Ce r.Ro r.Wi r.Tr
def RuZ.bytes (r : RuZ) : Int := bytesZ r.Sl r.Ce r.Ro r.Wi r.Tr
/-- A slice of rules. -/
structure RdRu (w : World) (A : Option Addr) (n c : Nat) (rs : List RuZ) : Prop where
  cap : n ≤ c
  max : c ≤ maxLen
  len : rs.length = n
  at_ : 0 < n → ∃ b off, A = some ⟨b, off, none⟩ ∧ b < w.heap.size ∧ ∀ i (h : i < rs.length) j, j < 9 → w.cell? ⟨b, off + i * 9 + j, none⟩ = (rs[i]).c[j]?
  ok : ∀ r ∈ rs, r.ok
theorem RdRu.below {w w' : World} {A : Option Addr} {n c : Nat} {rs : List RuZ} (h : RdRu w A n c rs) (hb : Below w.heap.size w w') : RdRu w' A n c rs :=
  ⟨h.cap, h.max, h.len, fun hn => by
    obtain ⟨b, off, e, hlt, hc⟩ := h.at_ hn
    exact ⟨b, off, e, Nat.lt_of_lt_of_le hlt hb.size, fun i hi j hj => by rw [hb.cell (p := ⟨b, off + i * 9 + j, none⟩) hlt]; exact hc i hi j hj⟩, h.ok⟩
def sumB : List RuZ → Int
  | [] => 0
  | r :: l => r.bytes + sumB l
theorem sumB_snoc : ∀ (l : List RuZ) (r : RuZ), sumB (l ++ [r]) = sumB l + r.bytes
  | [], r => by simp [sumB]
  | a :: l, r => by simp only [List.cons_append, sumB, sumB_snoc l r]; omega
theorem sumB_take {l : List RuZ} {i : Nat} (h : i < l.length) : sumB (l.take (i + 1)) = sumB (l.take i) + (l[i]).bytes := by
  rw [List.take_succ_eq_append_getElem h, sumB_snoc]
theorem bytes_bd {r : RuZ} (h : r.p) : 1 ≤ r.bytes ∧ r.bytes ≤ 18000000 := by
  obtain ⟨_, _, _, h4, _, h6, h7, h8, h9, _, _⟩ := h
  have p1 := mul_bd h7 h8
  have p2 := mul_bd (a := r.Sl + 1) (b := 16 + 8 * (r.Ro * r.Wi)) (A := 65) (B := 262160) (by omega) (by omega)
  unfold RuZ.bytes bytesZ
  omega
theorem sumB_bd : ∀ (l : List RuZ), (∀ r ∈ l, r.p) → 0 ≤ sumB l ∧ sumB l ≤ 18000000 * (l.length : Int)
  | [], _ => by simp [sumB]
  | a :: l, h => by
    have h1 := bytes_bd (h a (by simp))
    have h2 := sumB_bd l (fun r hr => h r (by simp [hr]))
    simp only [sumB, List.length_cons]
    omega
set_option maxHeartbeats 4000000 in
set_option maxRecDepth 100000 in
theorem foot_any (Bu Co Ou : Int) (A : Option Addr) (n c : Nat) (rs : List RuZ) (w : World) (hr : RdRu w A n c rs) (hn : n ≤ 8) (hp : ∀ r ∈ rs, r.p) (hC : 1 ≤ Co ∧ Co ≤ 16) (hO : 0 ≤ Ou ∧ Ou ≤ 65536) :
    Calls Try.prog 17 #[.agg #[.int .i64 Bu, .int .i64 Co, .int .i64 Ou, .slice A n c]] w fun e w' => e = .returned (.int .i64 (Co * Ou + sumB rs)) ∧ Below w.heap.size w w' := by
  obtain ⟨P, hP⟩ : ∃ P, Co * Ou = P := ⟨_, rfl⟩
  have hPb : 0 ≤ P ∧ P ≤ 1048576 := by
    rw [← hP]
    exact ⟨Int.mul_nonneg (by omega) (by omega), by have := Int.mul_le_mul hC.2 hO.2 (by omega) (by omega); omega⟩
  have hPw : IntKind.i64.wrap (Co * Ou) = P := by rw [hP, IntKind.wrap_i64]; omega
  have hcp := hr.cap
  have hmx := hr.max
  unfold maxLen at hmx
  have HR := Lib.hid hr
  have HP := Lib.hid hp
  have HPP := Lib.hid hP
  clear hr hp hP
  rw [show Co * Ou + sumB rs = P + sumB rs from by rw [HPP.out]]
  go_enter Try.func17, Try.ntmps17
  go_upto_region 1 with (fail)
  obtain ⟨w1, hw1, hbk, hbl, hsz1⟩ := box_new w #[.int .i64 Bu, .int .i64 Co, .int .i64 Ou, .slice A n c] 29
  change Code.wp _ _ _ _ (w.alloc (.cells #[.int .i64 Bu, .int .i64 Co, .int .i64 Ou, .slice A n c] 29))
  rw [hw1]
  obtain ⟨b0, hb0⟩ : ∃ b0, b0 = w.heap.size := ⟨_, rfl⟩
  rw [← hb0] at hbk ⊢
  have k0 := hbk.rd
  have BK := Lib.hid hbk
  have BL := Lib.hid hbl
  clear hbk hbl hsz1 hw1 hb0
  have CB := Lib.hid (fun (z : Int) (w : World) => show Calls Try.prog 29 #[.int .i64 z] w (fun e w' => e = .returned (.int .i64 z) ∧ w' = w) from by
    go_enter Try.func29, Try.ntmps29
    go_wp2
    go_ret
    exact ⟨rfl, rfl⟩)
  go_quiet ((go_at_call 29; (with_reducible exact Calls.quiet_of_same (CB.out _ _))))
  have BK1 := Lib.hid (BK.out.keep (below_draws (Below.refl _ _) nq))
  have BL1 := Lib.hid (below_draws BL.out nq)
  obtain ⟨w2, hw2⟩ : ∃ w2, w2 = w1.drewN nq := ⟨_, rfl⟩
  rw [← hw2] at BK1 BL1 ⊢
  have HR2 := Lib.hid (HR.out.below BL1.out)
  have k2 := BK1.out.rd
  clear hw2 k0 BK BL hPw CB
  go_upto_region 3 with (fail)
  clear k2 BK1
  go_loopg [3, 15] n (fun k s3 s15 wr => ∃ i : Nat, i ≤ n ∧ k = n - i ∧ s3 = .int .i64 (P + sumB (rs.take i)) ∧ s15 = .int .i64 (i : Int) ∧ Below w2.heap.size w2 wr)
  case atStart => exact ⟨0, by omega, by omega, by simp [sumB], rfl, Below.refl _ _⟩
  case round =>
    obtain ⟨i, hi, hkk, rfl, rfl, hb⟩ := hrel
    have HK := Lib.hid hkk
    have HBR := Lib.hid hb
    have hlen := HR.out.len
    obtain ⟨s, hs⟩ : ∃ s, s = sumB (rs.take i) := ⟨_, rfl⟩
    rw [← hs]
    have hsb : 0 ≤ s ∧ s ≤ 144000000 := by
      have := sumB_bd (rs.take i) (fun r hr => HP.out r (List.mem_of_mem_take hr))
      rw [← hs, List.length_take] at this
      omega
    have HS := Lib.hid hs
    clear hkk hs
    by_cases hin : i < n
    · have hir : i < rs.length := by omega
      obtain ⟨gb, off, rfl, hlt, hc⟩ := (HR2.out.below hb).at_ (by omega)
      have hcc := hc i hir
      have hrp := HP.out _ (List.getElem_mem hir)
      have HNX := Lib.hid (sumB_take hir)
      obtain ⟨r, hrr⟩ : ∃ r, r = rs[i] := ⟨_, rfl⟩
      rw [← hrr] at hcc hrp HNX
      have hbb := bytes_bd hrp
      have CL := Lib.hid (fun w => limB_any r.L r.W r.B r.Sl r.Ce r.Ro r.Wi r.Tr r.sm hrp.2.2.2.1 hrp.2.2.2.2.2.2.1 hrp.2.2.2.2.2.2.2.1 hrp.2.2.2.2.2.1 hrp.2.2.2.2.2.2.2.2.1 w)
      obtain ⟨L, W, B, Sl, Ce, Ro, Wi, Tr, sm⟩ := r
      obtain ⟨y, hy⟩ : ∃ y, y = RuZ.bytes ⟨L, W, B, Sl, Ce, Ro, Wi, Tr, sm⟩ := ⟨_, rfl⟩
      rw [← hy] at hbb HNX
      have CL2 := Lib.hid (fun w => show Calls Try.prog 12 #[ruV L W B Sl Ce Ro Wi Tr sm] w (fun e w' => e = .returned (.int .i64 y) ∧ Below w.heap.size w w') from by rw [hy]; exact CL.out w)
      have c0 := hcc 0 (by omega)
      have c1 := hcc 1 (by omega)
      have c2 := hcc 2 (by omega)
      have c3 := hcc 3 (by omega)
      have c4 := hcc 4 (by omega)
      have c5 := hcc 5 (by omega)
      have c6 := hcc 6 (by omega)
      have c7 := hcc 7 (by omega)
      have c8 := hcc 8 (by omega)
      simp [RuZ.c] at c0 c1 c2 c3 c4 c5 c6 c7 c8
      clear hrr hy hrp CL hc hcc hlen hb
      go_upto_region 5 with (fail)
      clear c0 c1 c2 c3 c4 c5 c6 c7 c8
      obtain ⟨w3, hw3, hbk, hbl, hsz⟩ := box_new wr (ruC L W B Sl Ce Ro Wi Tr sm) 23
      change Code.wp _ _ _ _ (wr.alloc (.cells (ruC L W B Sl Ce Ro Wi Tr sm) 23))
      rw [hw3]
      obtain ⟨b3, hb3⟩ : ∃ b3, b3 = wr.heap.size := ⟨_, rfl⟩
      rw [← hb3] at hbk ⊢
      have k3 := hbk.rd
      have B3 := Lib.hid (HBR.out.trans (hbl.mono HBR.out.size))
      clear hbk hbl hsz hw3 hb3 hlt
      go_wp2_with (go_at_call 12; ((with_reducible refine (CL2.out _).mono ?_); rintro e w4 ⟨rfl, b4⟩; have B4 := Lib.hid (B3.out.trans (b4.mono B3.out.size)); clear b4))
      go_roundg (n - (i + 1))
      case measure => have := HK.out; omega
      case rel =>
        refine ⟨i + 1, by omega, by omega, ?_, by go_num, B4.out⟩
        rw [HNX.out, ← HS.out]
        go_num
    · have hie : i = n := by omega
      subst hie
      have HEQ := Lib.hid (show s = sumB rs from by rw [HS.out, List.take_of_length_le (by omega)])
      have B5 := Lib.hid (BL1.out.trans (HBR.out.mono BL1.out.size))
      clear hlen hb
      go_wp2
      go_ret
      exact ⟨by rw [← HEQ.out]; rfl, B5.out⟩
end Go.Proofs.Ytfpknklnbgmflaa
