/- What the laws of layer 7 (ring) share: the example, plans, gaps, light calls. -/
import Derived.Test.YthfaeapodfgldaaRgN
import Derived.Test.YthfaeapodfgldaaBits
namespace Go.Proofs.Ythfaeapodfgldaa
set_option linter.unusedSimpArgs false
set_option linter.unusedVariables false
open Go.ChangeShapes Go.WideShapes Go.ChangeAt Go.RowKit
open Ar (inR)
section
variable {R : RgN} {σ : RgS}
theorem lsum_out {s : ByteArray} {a b : Int} {j : Nat} (h : ∀ i, i < j → ¬ (a ≤ σ.num i ∧ σ.num i ≤ b)) : lsum R σ s a b j = 0 := by
  induction j with
  | zero => rfl
  | succ j ih => unfold lsum; rw [if_neg (h j (by omega)), ih (fun i hi => h i (by omega))]
theorem lsum_one {s : ByteArray} {a b : Int} {i : Nat} (hi : a ≤ σ.num i ∧ σ.num i ≤ b) (hok : 0 ≤ Sk.leastR (σ.F i) R.P s (R.k - 1) ∧ Sk.leastR (σ.F i) R.P s (R.k - 1) ≤ 9223372036854775807) : ∀ j, (∀ q, q < j → q ≠ i → a ≤ σ.num q ∧ σ.num q ≤ b → Sk.leastR (σ.F q) R.P s (R.k - 1) = 0) →
    lsum R σ s a b j = if i < j then Sk.leastR (σ.F i) R.P s (R.k - 1) else 0
  | 0, _ => by rw [if_neg (by omega)]; rfl
  | j + 1, h => by
    have ih := lsum_one hi hok j (fun q hq => h q (by omega))
    unfold lsum
    by_cases e : i = j
    · subst e
      rw [if_pos hi, ih, if_neg (by omega), if_pos (by omega), Int.zero_add, clamp_in hok]
    · rw [ih]
      have e2 : (if i < j + 1 then Sk.leastR (σ.F i) R.P s (R.k - 1) else 0) = if i < j then Sk.leastR (σ.F i) R.P s (R.k - 1) else 0 := by
        by_cases h1 : i < j
        · rw [if_pos h1, if_pos (by omega)]
        · rw [if_neg h1, if_neg (by omega)]
      rw [e2]
      split
      · rename_i hin
        rw [h j (by omega) (fun q => e q.symm) hin, Int.add_zero]
        split
        · exact clamp_in hok
        · exact clamp_in (by omega)
      · rfl
end
theorem least_zero (P : Nat → ByteArray → Nat) (s : ByteArray) (r : Nat) : Sk.leastR (fun _ _ => 0) P s r = 0 := by obtain ⟨_, _, he⟩ := Sk.leastR_is (fun _ _ => (0 : Int)) P s r; exact he
/-- what the example's ring has behind its call. -/
def fitS (R : RgN) (t : Int) : RgS := ⟨t, fun _ => 0, updN (fun _ _ _ => 0) 0 (Sk.add (fun _ _ => 0) R.P R.k ⟨#[97]⟩ 3)⟩
theorem fit_add {R : RgN} (h : R.n = 6 ∧ R.s = 2) : (RgS.add ⟨1, fun _ => 0, fun _ _ _ => 0⟩ R ⟨#[97]⟩ 3) = fitS R 1 := by
  have h1 : RgS.now ⟨1, fun _ => 0, fun _ _ _ => 0⟩ R = 0 := by unfold RgS.now; rw [h.2]; rfl
  have h2 : RgS.pl ⟨1, fun _ => 0, fun _ _ _ => 0⟩ R = 0 := by unfold RgS.pl; rw [h1, h.1]; rfl
  unfold RgS.add fitS
  rw [h1, h2]
  have e : updN (fun _ : Nat => (0 : Int)) 0 0 = fun _ => 0 := by funext j; unfold updN; split <;> rfl
  simp only [e, if_true]
theorem fit_est {R : RgN} (h : R.n = 6 ∧ R.s = 2) (hk : 1 ≤ R.k) (hsm : R.sm = false) (t : Int) (ht : t = 11 ∨ t = 12) : estZ R (fitS R t) ⟨#[97]⟩ = if t = 11 then 3 else 0 := by
  have hl0 : Sk.leastR ((fitS R t).F 0) R.P ⟨#[97]⟩ (R.k - 1) = 3 := by
    have e0 : (fitS R t).F 0 = Sk.add (fun _ _ => 0) R.P R.k ⟨#[97]⟩ 3 := updN_self (α := Nat → Nat → Int) (fun _ _ _ => 0) 0 (Sk.add (fun _ _ => 0) R.P R.k ⟨#[97]⟩ 3)
    rw [e0]; exact first_least R.P hk ⟨#[97]⟩ (by omega)
  have hlz : ∀ q, q ≠ 0 → Sk.leastR ((fitS R t).F q) R.P ⟨#[97]⟩ (R.k - 1) = 0 := fun q hq => by
    have e0 : (fitS R t).F q = fun _ _ => 0 := updN_ne (α := Nat → Nat → Int) (fun _ _ _ => 0) (Sk.add (fun _ _ => 0) R.P R.k ⟨#[97]⟩ 3) hq
    rw [e0]; exact least_zero _ _ _
  have hin : ∀ a b : Int, a ≤ 0 ∧ 0 ≤ b → lsum R (fitS R t) ⟨#[97]⟩ a b 6 = 3 := fun a b hab => by
    rw [lsum_one (i := 0) (show a ≤ (fitS R t).num 0 ∧ (fitS R t).num 0 ≤ b from hab) (by rw [hl0]; omega) 6 (fun q _ hq _ => hlz q hq), if_pos (by omega), hl0]
  have hout : ∀ a b : Int, 0 < a → lsum R (fitS R t) ⟨#[97]⟩ a b 6 = 0 := fun a b hab => lsum_out (fun i _ => by show ¬ (a ≤ 0 ∧ 0 ≤ b); omega)
  unfold estZ eldZ RgS.now
  simp only [hsm, h.1, h.2]
  rcases ht with rfl | rfl
  · rw [show (fitS R 11).t / ((2 : Nat) : Int) = 5 from rfl]
    rw [hin _ _ (by omega), hout _ _ (by omega)]
    rfl
  · rw [show (fitS R 12).t / ((2 : Nat) : Int) = 6 from rfl]
    rw [hout _ _ (by omega), hout _ _ (by omega)]
    rfl
set_option maxHeartbeats 2000000 in
theorem rgfit_any (w : World) : Calls Try.prog 10 #[] w fun e w' => e = .returned (.bool true) ∧ Below w.heap.size w w' := by
  have CR := Lib.hid (show Calls Try.prog 14 #[.slice none 0 0, .int .i64 1] w (fun e w' => e = .returned (.slice (some ⟨w.heap.size, 0, none⟩) 1 1) ∧ RowsAt w' w.heap.size 1 (rX []) (rA []) (rB []) ∧ Below w.heap.size w w') from rows_any w none 0 0 [] (rdI_none w _) 1 (by omega))
  have CN := Lib.hid (fun wx (hr : RowsAt wx w.heap.size 1 (rX []) (rA []) (rB [])) => show Calls Try.prog 13 #[.agg #[.int .i64 9, .int .i64 10, .int .i64 0, .int .i64 5, .int .i64 0, .int .i64 0, .int .i64 4, .int .i64 0, .bool false], .slice (some ⟨w.heap.size, 0, none⟩) 1 1] wx _ from rnew_any 9 10 0 0 0 0 5 2 1 4 false (by unfold inR; omega) (by omega) (by omega) (by decide) (by omega) (by omega) w.heap.size _ _ _ wx hr (rows_lt [] 1))
  have hs : (⟨#[97]⟩ : ByteArray).size ≤ maxLen := by show 1 ≤ maxLen; unfold maxLen; omega
  have HS := Lib.hid hs
  clear hs
  go_enter Try.func10, Try.ntmps10
  go_upto_region 4 with (first
    | (go_at_call 14; ((with_reducible refine CR.out.mono ?_); rintro e w1 ⟨rfl, r1, b1⟩; have R1 := Lib.hid r1; have B1 := Lib.hid b1; clear r1 b1))
    | (go_at_call 13; ((with_reducible refine (CN.out _ R1.out).mono ?_); rintro e w2 ⟨R, rfl, s2, n1, n2, b2⟩; have S2 := Lib.hid s2; have NR := Lib.hid n1; have AR := Lib.hid (fun b hb => Nat.le_trans B1.out.size (n2 b hb)); have B2 := Lib.hid (B1.out.trans (b2.mono B1.out.size)); clear s2 n1 n2 b2)))
  clear CR CN
  have CT1 := Lib.hid (rto_any 1 (by omega) w2 S2.out)
  go_upto_region 5 with (go_at_call 16; ((with_reducible refine CT1.out.mono ?_); rintro e w3 ⟨rfl, s3, f3⟩; have S3 := Lib.hid (show RgAt w3 R ⟨1, fun _ => 0, fun _ _ _ => 0⟩ from s3); have B3 := Lib.hid (B2.out.trans (f3.below B2.out.size (fun b hb => AR.out b (Or.inl (Or.inl hb))))); clear s3 f3))
  have CA := Lib.hid (radd_any ⟨#[97]⟩ HS.out 3 (by omega) w3 S3.out)
  rw [fit_add ⟨NR.out.1, NR.out.2.1⟩] at CA
  go_upto_region 6 with (go_at_call 17; ((with_reducible refine CA.out.mono ?_); rintro e w4 ⟨rfl, s4, f4⟩; have S4 := Lib.hid s4; have B4 := Lib.hid (B3.out.trans (f4.below B3.out.size (fun b hb => AR.out b (Or.inl hb)))); clear s4 f4))
  have CT2 := Lib.hid (rto_any 11 (by omega) w4 S4.out)
  go_upto_region 7 with (go_at_call 16; ((with_reducible refine CT2.out.mono ?_); rintro e w5 ⟨rfl, s5, f5⟩; have S5 := Lib.hid (show RgAt w5 R (fitS R 11) from s5); have B5 := Lib.hid (B4.out.trans (f5.below B4.out.size (fun b hb => AR.out b (Or.inl (Or.inl hb))))); clear s5 f5))
  have CE1 := Lib.hid (restimate_any ⟨#[97]⟩ HS.out w5 S5.out)
  rw [fit_est ⟨NR.out.1, NR.out.2.1⟩ (by rw [NR.out.2.2.2.2.1]; omega) NR.out.2.2.2.1 11 (Or.inl rfl), if_pos rfl] at CE1
  go_upto_region 8 with (go_at_call 18; ((with_reducible refine CE1.out.mono ?_); rintro e w6 ⟨rfl, b6⟩; have S6 := Lib.hid (S5.out.keep b6); have B6 := Lib.hid (B5.out.trans (b6.mono B5.out.size)); clear b6))
  have CT3 := Lib.hid (rto_any 12 (by omega) w6 S6.out)
  go_upto_region 9 with (go_at_call 16; ((with_reducible refine CT3.out.mono ?_); rintro e w7 ⟨rfl, s7, f7⟩; have S7 := Lib.hid (show RgAt w7 R (fitS R 12) from s7); have B7 := Lib.hid (B6.out.trans (f7.below B6.out.size (fun b hb => AR.out b (Or.inl (Or.inl hb))))); clear s7 f7))
  have CE2 := Lib.hid (restimate_any ⟨#[97]⟩ HS.out w7 S7.out)
  rw [fit_est ⟨NR.out.1, NR.out.2.1⟩ (by rw [NR.out.2.2.2.2.1]; omega) NR.out.2.2.2.1 12 (Or.inr rfl), if_neg (by decide)] at CE2
  go_wp2_with (go_at_call 18; ((with_reducible refine CE2.out.mono ?_); rintro e w8 ⟨rfl, b8⟩; have B8 := Lib.hid (B7.out.trans (b8.mono B7.out.size)); clear b8))
  go_ret
  exact ⟨rfl, B8.out⟩
end Go.Proofs.Ythfaeapodfgldaa
