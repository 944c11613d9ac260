/- The contracts of layer 7 (ring): what reads. -/
import Derived.Test.YthfaeapodfgldaaRgM
namespace Go.Proofs.Ythfaeapodfgldaa
set_option linter.unusedSimpArgs false
set_option linter.unusedVariables false
open Go.ChangeShapes Go.WideShapes Go.ChangeAt Go.RowKit
open Ar (inR)
section
variable {w w' : World} {R : RgN} {σ : RgS}
/-- the number of the slot that is now. -/
def RgS.now (σ : RgS) (R : RgN) : Int := σ.t / (R.s : Int)
theorem RgAt.now_in (h : RgAt w R σ) : 0 ≤ σ.now R ∧ σ.now R ≤ 9223372036854775807 := by
  have h1 := h.ht
  have h2 := h.bd.2.1
  have h3 := Int.ediv_le_self (R.s : Int) h1.1
  unfold RgS.now
  exact ⟨Int.ediv_nonneg h1.1 (by omega), by omega⟩
theorem reldest_any (w : World) (h : RgAt w R σ) :
    Calls Try.prog 31 #[.pointer (some ⟨R.x, 0, none⟩)] w fun e w' => e = .returned (.int .i64 (σ.now R - ((R.n : Int) - 1))) ∧ Below w.heap.size w w' := by
  have CN := Lib.hid (fun wx (hb : Below w.heap.size w wx) => (rnumber_any σ.t h.ht wx (h.keep hb)).mono (fun e w' hh => show e = .returned (.int .i64 (σ.now R)) ∧ (∀ i, w'.cell? ⟨R.x, i, none⟩ = (ringC R σ.t)[i]?) ∧ Below w.heap.size w w' from ⟨hh.1, by rw [← hh.2]; exact (h.keep hb).hx.rd, by rw [← hh.2]; exact hb⟩))
  have hb := h.bd.1
  have hnow := h.now_in
  obtain ⟨q, hq⟩ : ∃ q, q = σ.now R := ⟨_, rfl⟩
  rw [← hq] at CN hnow ⊢
  have k : ∀ i, w.drew.cell? ⟨R.x, i, none⟩ = (ringC R σ.t)[i]? := h.hx.rd
  have y2 : Below w.heap.size w w.drew := below_draws (Below.refl _ _) 1
  have e1 : IntKind.i64.wrap ((R.n : Int) - 1) = (R.n : Int) - 1 := by rw [IntKind.wrap_i64]; omega
  have e2 : IntKind.i64.wrap (q - ((R.n : Int) - 1)) = q - ((R.n : Int) - 1) := by rw [IntKind.wrap_i64]; omega
  clear h hb hnow hq
  go_enter Try.func31, Try.ntmps31
  go_upto_region 1 with (fail)
  go_region_held3 (fun w' => ∀ i, w'.cell? ⟨R.x, i, none⟩ = (ringC R σ.t)[i]?) (assumption)
    (first
      | (go_at_call 20; ((with_reducible refine (CN.out _ y2).mono ?_); rintro e wa ⟨rfl, z1, b1⟩)))
  go_wp2
  go_ret
  exact ⟨rfl, b1⟩
set_option maxHeartbeats 1000000 in
theorem rleast_any (s : ByteArray) (hs : s.size ≤ maxLen) (a b : Int) (w : World) (h : RgAt w R σ) :
    Calls Try.prog 32 #[.pointer (some ⟨R.x, 0, none⟩), .string s, .int .i64 a, .int .i64 b] w fun e w' => e = .returned (.int .i64 (lsum R σ s a b R.n)) ∧ Below w.heap.size w w' := by
  have HH := Lib.hid h
  have HS := Lib.hid hs
  have k := h.hx.rd
  have hn := h.bd.1
  have t0 : (R.n : Int) ≤ 65 := by omega
  clear h hs hn
  go_enter Try.func32, Try.ntmps32
  go_wp2
  go_loopg [17, 9] R.n (fun kk si ss wr => ∃ j : Nat, j ≤ R.n ∧ Hid (kk = R.n - j) ∧ si = .int .i64 (j : Int) ∧ ss = .int .i64 (lsum R σ s a b j) ∧ Hid (Below w.heap.size w wr))
  case atStart => exact ⟨0, by omega, Lib.hid rfl, rfl, rfl, Lib.hid (Below.refl _ _)⟩
  case round =>
    obtain ⟨j, hj, HKK, rfl, rfl, HB⟩ := hrel
    by_cases hjn : j < R.n
    · have HR := Lib.hid (HH.out.keep HB.out)
      obtain ⟨kr0, kr1⟩ := HR.out.part hjn
      obtain ⟨x1, x2, ex1, kr, kw, ex2, bl2, kc2⟩ := box2 wr 61 (.int .i64 0) (.pointer none) (.int .i64 (σ.num j)) (.pointer (some ⟨R.bs j, 0, none⟩))
      have BX := Lib.hid (HB.out.trans (bl2.mono HB.out.size))
      have HX := Lib.hid (HR.out.keep bl2)
      have kc3 := kc2.rd
      have t2 : (j : Int) < (R.n : Int) := by omega
      have HJN := Lib.hid hjn
      have hsum : lsum R σ s a b (j + 1) = if a ≤ σ.num j ∧ σ.num j ≤ b then clamp (lsum R σ s a b j + Sk.leastR (σ.F j) R.P s (R.k - 1)) else lsum R σ s a b j := rfl
      have hin := lsum_in (R := R) (σ := σ) (j := j) (fun i hi => (HR.out.hs i (by omega)).ok) s a b
      have hli := (HR.out.hs j hjn).ok.least R.P s (R.k - 1)
      obtain ⟨lv, hlv⟩ : ∃ lv, lv = lsum R σ s a b j := ⟨_, rfl⟩
      obtain ⟨cv, hcv⟩ : ∃ cv, cv = Sk.leastR (σ.F j) R.P s (R.k - 1) := ⟨_, rfl⟩
      have CL := Lib.hid (fun wx (hb : Below x2.heap.size x2 wx) => show Calls Try.prog 38 #[.pointer (some ⟨R.bs j, 0, none⟩), .string s] wx (fun e w' => e = .returned (.int .i64 cv) ∧ Below wx.heap.size wx w') from by
        rw [hcv]; exact sleast_any s HS.out wx ((HX.out.keep hb).hs j HJN.out))
      rw [← hlv, ← hcv] at hsum
      rw [← hlv] at hin ⊢
      rw [← hcv] at hli
      have CS := Lib.hid (fun w => sum_any lv cv (by unfold inR; omega) (by unfold inR; omega) w)
      have HSU := Lib.hid hsum
      clear bl2 kc2 hjn hin hli hlv hcv hsum
      go_upto_region 5 with (fail)
      clear kr kw ex1 kr0 kr1 ex2
      by_cases ha : a ≤ σ.num j
      · by_cases hb : σ.num j ≤ b
        · have HAB := Lib.hid (And.intro ha hb)
          go_wp2_with (first
            | (go_at_call 38; ((with_reducible refine (CL.out _ (Below.refl _ _)).mono ?_); rintro e w3 ⟨rfl, b3⟩; have B3 := Lib.hid (BX.out.trans (b3.mono BX.out.size)); clear b3))
            | (go_at_call 34; ((with_reducible refine (CS.out _).mono ?_); rintro e w4 ⟨rfl, rfl⟩)))
          go_roundg (R.n - (j + 1))
          case measure => have := HKK.out; have := HJN.out; omega
          case rel => exact ⟨j + 1, HJN.out, Lib.hid rfl, by go_num, by rw [HSU.out, if_pos HAB.out], B3⟩
        · have hb' : ¬ σ.num j ≤ b := hb
          have HAB := Lib.hid (show ¬ (a ≤ σ.num j ∧ σ.num j ≤ b) by omega)
          go_wp2
          go_roundg (R.n - (j + 1))
          case measure => have := HKK.out; have := HJN.out; omega
          case rel => exact ⟨j + 1, HJN.out, Lib.hid rfl, by go_num, by rw [HSU.out, if_neg HAB.out], BX⟩
      · have HAB := Lib.hid (show ¬ (a ≤ σ.num j ∧ σ.num j ≤ b) by omega)
        have hund : undef = Value.tuple #[] := rfl
        go_wp2
        go_roundg (R.n - (j + 1))
        case measure => have := HKK.out; have := HJN.out; omega
        case rel => exact ⟨j + 1, HJN.out, Lib.hid rfl, by go_num, by rw [HSU.out, if_neg HAB.out], BX⟩
    · have hje : j = R.n := by omega
      have t2 : ¬ ((j : Int) < (R.n : Int)) := by omega
      have HJ := Lib.hid hje
      clear hjn hje
      go_wp2
      go_ret
      exact ⟨by rw [← HJ.out]; rfl, HB.out⟩
end
end Go.Proofs.Ythfaeapodfgldaa
