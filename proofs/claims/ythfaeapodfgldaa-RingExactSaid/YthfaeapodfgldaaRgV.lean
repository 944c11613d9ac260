/- The contracts of layer 7 (ring): Wait. -/
import Derived.Test.YthfaeapodfgldaaRgW
namespace Go.Proofs.Ythfaeapodfgldaa
set_option linter.unusedSimpArgs false
set_option linter.unusedVariables false
open Go.ChangeShapes Go.WideShapes Go.ChangeAt Go.RowKit
open Ar (inR)
/-- has a key room for a cost at the beginning of a slot? -/
def roomAt (R : RgN) (σ : RgS) (s : ByteArray) (c x : Int) : Prop := clamp (lsum R σ s (x - ((R.n : Int) - 1)) (σ.now R) R.n + c) ≤ R.L
instance (R : RgN) (σ : RgS) (s : ByteArray) (c x : Int) : Decidable (roomAt R σ s c x) := by unfold roomAt; infer_instance
/-- the first slot with room, of so many. -/
def nextR (R : RgN) (σ : RgS) (s : ByteArray) (c : Int) : Nat → Int → Int
  | 0, x => x
  | j + 1, x => if roomAt R σ s c x then x else nextR R σ s c j (x + 1)
def waitR (R : RgN) (σ : RgS) (s : ByteArray) (c : Int) : Int :=
  if clamp (estZ R σ s + c) ≤ R.L then 0 else clamp (nextR R σ s c (R.n - 1) (σ.now R + 1) * (R.s : Int)) - σ.t
theorem nextR_in (R : RgN) (σ : RgS) (s : ByteArray) (c : Int) : ∀ (j : Nat) (x : Int), x ≤ nextR R σ s c j x ∧ nextR R σ s c j x ≤ x + j
  | 0, x => ⟨Int.le_refl _, by show x ≤ x + 0; omega⟩
  | j + 1, x => by
    have ih := nextR_in R σ s c j (x + 1)
    unfold nextR
    split
    · omega
    · omega
section
variable {w w' : World} {R : RgN} {σ : RgS}
theorem rwait_nil (s : ByteArray) (c : Int) (w : World) : Calls Try.prog 21 #[.pointer none, .string s, .int .i64 c] w fun e w' => e = .returned (.int .i64 0) ∧ ∃ d, w' = w.drewN d := by
  have hund : undef = Value.tuple #[] := rfl
  go_enter Try.func21, Try.ntmps21
  go_upto_region 1 with (fail)
  go_quiet (fail)
  go_wp2
  go_ret
  exact ⟨rfl, nq, rfl⟩
set_option maxHeartbeats 2000000 in
theorem rwait_any (s : ByteArray) (hs : s.size ≤ maxLen) (c : Int) (hc : -9223372036854775808 ≤ c ∧ c ≤ 9223372036854775807) (w : World) (h : RgAt w R σ) (hbig : σ.now R ≤ 9223372036854775000) :
    Calls Try.prog 21 #[.pointer (some ⟨R.x, 0, none⟩), .string s, .int .i64 c] w fun e w' => e = .returned (.int .i64 (waitR R σ s c)) ∧ Below w.heap.size w w' := by
  have hn := h.bd.1
  have hL := h.bd.2.2
  have hss := h.bd.2.1
  have ht := h.ht
  have hnow := h.now_in
  have he := estZ_in h s
  have hk : ∀ wx, Below w.heap.size w wx → ∀ i, wx.cell? ⟨R.x, i, none⟩ = (ringC R σ.t)[i]? := fun wx hb => (h.keep hb).hx.rd
  have CE := Lib.hid (fun wx (hb : Below w.heap.size w wx) => restimate_any s hs wx (h.keep hb))
  have CN := Lib.hid (fun wx (hb : Below w.heap.size w wx) => show Calls Try.prog 20 #[.pointer (some ⟨R.x, 0, none⟩), .int .i64 σ.t] wx (fun e w' => e = .returned (.int .i64 (σ.now R)) ∧ wx = w') from rnumber_any σ.t h.ht wx (h.keep hb))
  have CL := Lib.hid (fun (a b : Int) wx (hb : Below w.heap.size w wx) => rleast_any s hs a b wx (h.keep hb))
  have CS := Lib.hid (fun (a : Int) (ha : 0 ≤ a ∧ a ≤ 9223372036854775807) wx => sum_any a c (by unfold inR; omega) hc wx)
  have HL := Lib.hid (fun (a b : Int) => lsum_in (R := R) (σ := σ) h.ok s a b)
  have HW := Lib.hid (show waitR R σ s c = if clamp (estZ R σ s + c) ≤ R.L then 0 else clamp (nextR R σ s c (R.n - 1) (σ.now R + 1) * (R.s : Int)) - σ.t from rfl)
  have HRA := Lib.hid (fun x => show roomAt R σ s c x ↔ clamp (lsum R σ s (x - ((R.n : Int) - 1)) (σ.now R) R.n + c) ≤ R.L from Iff.rfl)
  have SB := Lib.hid hk
  obtain ⟨nw, hnw⟩ : ∃ nw, nw = σ.now R := ⟨_, rfl⟩
  rw [← hnw] at CN HW HRA hnow hbig
  obtain ⟨ev, hev⟩ : ∃ ev, ev = estZ R σ s := ⟨_, rfl⟩
  rw [← hev] at CE HW he
  have C1 := Lib.hid (CS.out ev he)
  have HB := Lib.hid (And.intro hn (And.intro hss (And.intro ht (And.intro hnow hbig))))
  obtain ⟨m, hm⟩ : ∃ m, m = R.n - 1 := ⟨_, rfl⟩
  have em : (R.n : Int) - 1 = (m : Int) := by omega
  have emw : IntKind.i64.wrap ((R.n : Int) - 1) = (m : Int) := by rw [IntKind.wrap_i64]; omega
  have HMm := Lib.hid (show R.n = m + 1 ∧ 1 ≤ m ∧ m ≤ 64 by omega)
  rw [← hm] at HW
  simp only [em] at HRA
  have tm : (m : Int) ≤ 64 := by omega
  have ew : IntKind.i64.wrap (nw + 1) = nw + 1 := by rw [IntKind.wrap_i64]; omega
  have y0 : Below w.heap.size w w.drew := below_draws (Below.refl _ _) 1
  have k0 := SB.out _ y0
  clear h hs hc hn hL hss ht hnow he hk hnw hev hm em hbig
  go_enter Try.func21, Try.ntmps21
  go_upto_region 1 with (fail)
  go_region_held3 (fun w' => ∀ i, w'.cell? ⟨R.x, i, none⟩ = (ringC R σ.t)[i]?) (first | assumption | exact SB.out _ y1)
    (first
      | (go_at_call 18; ((with_reducible refine (CE.out _ y0).mono ?_); rintro e w1 ⟨rfl, b1⟩; have y1 := y0.trans (b1.mono y0.size)))
      | (go_at_call 34; ((with_reducible refine (C1.out _).mono ?_); rintro e w2 ⟨rfl, rfl⟩)))
  have Y1 := Lib.hid y1
  clear k0 y0 y1 b1
  by_cases hroom : clamp (ev + c) ≤ R.L
  · have HR := Lib.hid hroom
    go_wp2
    go_ret
    exact ⟨by rw [HW.out, if_pos HR.out]; rfl, Y1.out⟩
  · have HR := Lib.hid hroom
    have y2 : Below w.heap.size w w1.drew := below_draws Y1.out 1
    have k2 := SB.out _ y2
    go_upto_region 3 with (fail)
    clear hroom
    go_region_held3 (fun w' => ∀ i, w'.cell? ⟨R.x, i, none⟩ = (ringC R σ.t)[i]?) (first | assumption)
      (first
        | (go_at_call 20; ((with_reducible refine (CN.out _ y2).mono ?_); rintro e w2 ⟨rfl, rfl⟩)))
    have Y2 := Lib.hid y2
    clear k2 y2 emw
    go_wp2
    have FIN := Lib.hid (fun (x : Int) (hx : 0 ≤ x ∧ x ≤ 9223372036854775807) (wx : World) (hb : Below w.heap.size w wx) => show (∀ w9, Calls Try.prog 23 #[.int .i64 x, .int .i64 (R.s : Int)] w9 fun e w' => e = .returned (.int .i64 (clamp (x * (R.s : Int)))) ∧ w9 = w') ∧ (0 ≤ clamp (x * (R.s : Int)) ∧ clamp (x * (R.s : Int)) ≤ 9223372036854775807) from
      ⟨fun w9 => product_any x (R.s : Int) (by unfold inR; omega) (by unfold inR; have := HB.out.2.1; omega) w9, by
        have h0 : 0 ≤ x * (R.s : Int) := Int.mul_nonneg hx.1 (by omega)
        unfold clamp
        split
        · omega
        · split <;> omega⟩)
    go_loopg [39, 9] m (fun kk si sx wr => ∃ (j : Nat) (x : Int), j ≤ m ∧ Hid (kk = m - j) ∧ si = .int .i64 (j : Int) ∧ sx = .int .i64 x ∧ Hid (x = nw + 1 + (j : Int)) ∧ Hid (nextR R σ s c m (nw + 1) = nextR R σ s c (m - j) x) ∧ Hid (Below w.heap.size w wr))
    case atStart => exact ⟨0, nw + 1, by omega, Lib.hid rfl, rfl, rfl, Lib.hid (by omega), Lib.hid rfl, Y2⟩
    case round =>
      obtain ⟨j, x, hj, HKK, rfl, rfl, HX, HN, HBW⟩ := hrel
      have hx := HX.out
      have hb4 := HB.out.2.2.2
      have fin := FIN.out x (by have := HMm.out; omega) wr HBW.out
      have y0 : Below w.heap.size w wr.drew := below_draws HBW.out 1
      have k0 := SB.out _ y0
      by_cases hjm : j < m
      · have CL1 := Lib.hid (CL.out (x - (m : Int)) nw)
        have hl := HL.out (x - (m : Int)) nw
        have hra := HRA.out x
        obtain ⟨lv, hlv⟩ : ∃ lv, lv = lsum R σ s (x - (m : Int)) nw R.n := ⟨_, rfl⟩
        rw [← hlv] at CL1 hl hra
        have C2 := Lib.hid (CS.out lv hl)
        have ex : IntKind.i64.wrap (x - (m : Int)) = x - (m : Int) := by rw [IntKind.wrap_i64]; omega
        have ex1 : IntKind.i64.wrap (x + 1) = x + 1 := by rw [IntKind.wrap_i64]; have := HMm.out; omega
        have ej : (j : Int) < (m : Int) := by omega
        have HJ := Lib.hid (And.intro hjm hra)
        have FN := Lib.hid fin
        clear hx hb4 hl hlv hjm hra fin
        go_upto_region 7 with (fail)
        go_region_held3 (fun w' => ∀ i, w'.cell? ⟨R.x, i, none⟩ = (ringC R σ.t)[i]?) (first | assumption | exact SB.out _ y1)
          (first
            | (go_at_call 32; ((with_reducible refine (CL1.out _ y0).mono ?_); rintro e w3 ⟨rfl, b1⟩; have y1 := y0.trans (b1.mono y0.size)))
            | (go_at_call 34; ((with_reducible refine (C2.out _).mono ?_); rintro e w4 ⟨rfl, rfl⟩)))
        have Y5 := Lib.hid y1
        clear k0 y0 y1 b1
        by_cases hok : clamp (lv + c) ≤ R.L
        · have HOK := Lib.hid hok
          have y6 : Below w.heap.size w w3.drew := below_draws Y5.out 1
          have k6 := SB.out _ y6
          obtain ⟨pv, hpv⟩ : ∃ pv, pv = clamp (x * (R.s : Int)) := ⟨_, rfl⟩
          have hfp := FN.out
          rw [← hpv] at hfp
          have CP := Lib.hid hfp.1
          have epv : IntKind.i64.wrap (pv - σ.t) = pv - σ.t := by rw [IntKind.wrap_i64]; have := HB.out.2.2.1; omega
          have HPV := Lib.hid hpv
          clear hfp hpv
          go_upto_region 10 with (fail)
          clear hok
          go_region_held3 (fun w' => ∀ i, w'.cell? ⟨R.x, i, none⟩ = (ringC R σ.t)[i]?) (first | assumption)
            (first
              | (go_at_call 23; ((with_reducible refine (CP.out _).mono ?_); rintro e w7 ⟨rfl, rfl⟩)))
          go_wp2
          go_ret
          refine ⟨?_, y6⟩
          rw [HW.out, if_neg (Int.not_le.2 HR.out), HN.out]
          have : nextR R σ s c (m - j) x = x := by
            obtain ⟨q, hq⟩ : ∃ q, m - j = q + 1 := ⟨m - j - 1, by have := HJ.out.1; omega⟩
            rw [hq]; unfold nextR; rw [if_pos (HJ.out.2.2 HOK.out)]
          rw [this, ← HPV.out]; rfl
        · have HOK := Lib.hid hok
          go_wp2
          go_roundg (m - (j + 1))
          case measure => have := HKK.out; have := HJ.out.1; omega
          case rel => exact ⟨j + 1, x + 1, HJ.out.1, Lib.hid rfl, by go_num, rfl, Lib.hid (by have := HX.out; omega), Lib.hid (by
            rw [HN.out]
            obtain ⟨q, hq⟩ : ∃ q, m - j = q + 1 := ⟨m - j - 1, by have := HJ.out.1; omega⟩
            rw [hq, show m - (j + 1) = q by omega]
            show nextR R σ s c (q + 1) x = _
            unfold nextR
            rw [if_neg (fun hh => absurd (HJ.out.2.1 hh) (by have := HOK.out; omega))]
            cases q <;> rfl), Y5⟩
      · have hjm2 : j = m := by omega
        have ej : ¬ ((j : Int) < (m : Int)) := by omega
        obtain ⟨pv, hpv⟩ : ∃ pv, pv = clamp (x * (R.s : Int)) := ⟨_, rfl⟩
        rw [← hpv] at fin
        have CP := Lib.hid fin.1
        have epv : IntKind.i64.wrap (pv - σ.t) = pv - σ.t := by rw [IntKind.wrap_i64]; have := HB.out.2.2.1; omega
        have HPV := Lib.hid (And.intro hpv hjm2)
        clear hx hb4 hjm hjm2 fin hpv
        go_upto_region 10 with (fail)
        go_region_held3 (fun w' => ∀ i, w'.cell? ⟨R.x, i, none⟩ = (ringC R σ.t)[i]?) (first | assumption)
          (first
            | (go_at_call 23; ((with_reducible refine (CP.out _).mono ?_); rintro e w7 ⟨rfl, rfl⟩)))
        go_wp2
        go_ret
        refine ⟨?_, y0⟩
        rw [HW.out, if_neg (Int.not_le.2 HR.out), HN.out, HPV.out.2, Nat.sub_self]
        show _ = Ending.returned (.int .i64 (clamp (x * (R.s : Int)) - σ.t))
        rw [← HPV.out.1]; rfl
end
end Go.Proofs.Ythfaeapodfgldaa
