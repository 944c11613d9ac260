/- The law ConnNone of layer 16, walked. -/
import Derived.Test.YtaghookljjpllaaCnS
namespace Go.Proofs.Ytaghookljjpllaa
set_option linter.unusedSimpArgs false
set_option linter.unusedVariables false
open Go.ChangeShapes Go.WideShapes Go.ChangeAt Go.RowKit
theorem cbytes_any (n : Int) (hn : IntKind.i64.wrap n = n) (w : World) : Calls Try.prog 22 #[.int .i64 n] w fun e w' => e = .returned (.int .i64 n) ∧ w = w' := by
  go_enter Try.func22, Try.ntmps22
  go_wp2
  go_ret
  exact ⟨rfl, rfl⟩
set_option maxRecDepth 100000 in
set_option maxHeartbeats 2000000 in
theorem cnnone_law (w : World) (sz : Int) (A : Option Addr) (n c : Nat) (zs : List Int) (hsz : -9223372036854775808 ≤ sz ∧ sz ≤ 9223372036854775807) (hr : RdI w .u8 A n c zs) :
    Calls Try.prog 5 #[.int .i64 sz, .slice A n c] w fun e w' => e = .returned (.bool true) ∧ Below w.heap.size w w' := by
  have hmx1 := hr.max
  have hcp1 := hr.cap
  unfold maxLen at hmx1
  clear hr
  go_enter Try.func5, Try.ntmps5
  go_upto_region 3 with (go_at_call 10; ((refine (cnfit_any _).mono ?_); rintro e w3 ⟨rfl, b3⟩; have B3 := Lib.hid b3; clear b3))
  by_cases hn : 300 < n
  · have t1 : decide ((300 : Int) < (n : Int)) = true := by rw [decide_eq_true_iff]; omega
    clear hn
    go_wp2
    go_ret
    exact ⟨rfl, B3.out⟩
  have t1 : decide ((300 : Int) < (n : Int)) = false := by rw [decide_eq_false_iff_not]; omega
  clear hn
  have CN := Lib.hid (cnew_z 1 50 50 rfl (by omega) (by omega) w3)
  go_upto_region 8 with (go_at_call 11; ((with_reducible refine CN.out.mono ?_); rintro e w4 ⟨Kn, rfl, hs, hru, h1, lo, b1⟩; have H1 := Lib.hid h1; have LO := Lib.hid lo; have B4 := Lib.hid b1; clear h1 lo b1 hs hru))
  have C5 := Lib.hid (c1_new H1.out (fun k hk => Nat.le_trans B3.out.size (LO.out k hk)) (G.below_on B3.out B4.out))
  obtain ⟨hb, hhb⟩ : ∃ x, x = w4.heap.size := ⟨_, rfl⟩
  rw [← hhb] at C5 ⊢
  generalize w4.alloc (.cells #[.slice none 0 0] 33) = w5 at C5 ⊢
  have CA := Lib.hid (fun u => c1_no A n c u w5 C5.out rfl)
  have CA0 := Lib.hid (fun u => caccept_nil A n c u w5)
  have CD := Lib.hid (cdrain_no 9 w5 C5.out.ch.c rfl)
  have CD0 := Lib.hid (cdrain_nil 9 w5)
  have CS := Lib.hid (cshut_no w5 C5.out.ch.c rfl)
  have CS0 := Lib.hid (cshut_nil w5)
  have CI := Lib.hid (cisopen_any w5 C5.out.ch.c)
  have CI0 := Lib.hid (cisopen_nil w5)
  have CO0 := Lib.hid (copen_nil w5)
  have CW0 := Lib.hid (cwaits_nil w5)
  have CR0 := Lib.hid (croom_nil w5)
  have kh := (c1_len C5.out).1
  obtain ⟨m, hm⟩ : ∃ m, m = sz % 65536 := ⟨_, rfl⟩
  have m1 : bits .and .i64 sz 65535 = m := by rw [hm]; exact i64_mask16 sz
  have hmb : IntKind.i64.wrap m = m := by rw [IntKind.wrap_i64]; omega
  have b1 : (m == m) = true := by simp
  have CB := Lib.hid (fun wx => cbytes_any m hmb wx)
  clear hhb hm
  go_upto_region 10 with (first
    | (go_at_call 13; ((with_reducible refine (CA.out _).mono ?_); rintro e' w9 ⟨rfl, rfl⟩))
    | (go_at_call 14; ((with_reducible refine CD.out.mono ?_); rintro e' w9 ⟨rfl, rfl⟩))
    | (go_at_call 16; ((with_reducible refine CS.out.mono ?_); rintro e' w9 ⟨rfl, rfl⟩))
    | (go_at_call 17; ((with_reducible refine CI.out.mono ?_); rintro e' w9 ⟨rfl, rfl⟩)))
  have HB0 := Lib.hid C5.out.bl
  by_cases h1 : sz < 1
  · have d1 : decide ((1 : Int) ≤ sz) = false := by rw [decide_eq_false_iff_not]; omega
    have CN2 := Lib.hid (cnew_no 1 sz (Or.inl h1) w5)
    have hund : undef = Value.tuple #[] := rfl
    clear h1
    go_wp2_with (first
      | (go_at_call 13; ((with_reducible refine (CA0.out _).mono ?_); rintro e' w9 ⟨rfl, rfl⟩))
      | (go_at_call 14; ((with_reducible refine CD0.out.mono ?_); rintro e' w9 ⟨rfl, rfl⟩))
      | (go_at_call 15; ((with_reducible refine CO0.out.mono ?_); rintro e' w9 ⟨rfl, rfl⟩))
      | (go_at_call 16; ((with_reducible refine CS0.out.mono ?_); rintro e' w9 ⟨rfl, rfl⟩))
      | (go_at_call 17; ((with_reducible refine CI0.out.mono ?_); rintro e' w9 ⟨rfl, rfl⟩))
      | (go_at_call 18; ((with_reducible refine CW0.out.mono ?_); rintro e' w9 ⟨rfl, rfl⟩))
      | (go_at_call 19; ((with_reducible refine CR0.out.mono ?_); rintro e' w9 ⟨rfl, rfl⟩))
      | (go_at_call 22; ((with_reducible refine (CB.out _).mono ?_); rintro e' w9 ⟨rfl, rfl⟩))
      | (go_at_call 11; ((with_reducible refine CN2.out.mono ?_); rintro e' w9 ⟨rfl, rfl⟩)))
    go_ret
    exact ⟨rfl, HB0.out⟩
  by_cases h2 : 65536 < sz
  · have d1 : decide ((1 : Int) ≤ sz) = true := by rw [decide_eq_true_iff]; omega
    have d2 : decide (sz ≤ (65536 : Int)) = false := by rw [decide_eq_false_iff_not]; omega
    have CN2 := Lib.hid (cnew_no 1 sz (Or.inr h2) w5)
    have hund : undef = Value.tuple #[] := rfl
    clear h1 h2
    go_wp2_with (first
      | (go_at_call 13; ((with_reducible refine (CA0.out _).mono ?_); rintro e' w9 ⟨rfl, rfl⟩))
      | (go_at_call 14; ((with_reducible refine CD0.out.mono ?_); rintro e' w9 ⟨rfl, rfl⟩))
      | (go_at_call 15; ((with_reducible refine CO0.out.mono ?_); rintro e' w9 ⟨rfl, rfl⟩))
      | (go_at_call 16; ((with_reducible refine CS0.out.mono ?_); rintro e' w9 ⟨rfl, rfl⟩))
      | (go_at_call 17; ((with_reducible refine CI0.out.mono ?_); rintro e' w9 ⟨rfl, rfl⟩))
      | (go_at_call 18; ((with_reducible refine CW0.out.mono ?_); rintro e' w9 ⟨rfl, rfl⟩))
      | (go_at_call 19; ((with_reducible refine CR0.out.mono ?_); rintro e' w9 ⟨rfl, rfl⟩))
      | (go_at_call 22; ((with_reducible refine (CB.out _).mono ?_); rintro e' w9 ⟨rfl, rfl⟩))
      | (go_at_call 11; ((with_reducible refine CN2.out.mono ?_); rintro e' w9 ⟨rfl, rfl⟩)))
    go_ret
    exact ⟨rfl, HB0.out⟩
  · as_aux_lemma =>
      have d1 : decide ((1 : Int) ≤ sz) = true := by rw [decide_eq_true_iff]; omega
      have d2 : decide (sz ≤ (65536 : Int)) = true := by rw [decide_eq_true_iff]; omega
      have CN2 := Lib.hid (cnew_z 1 sz sz.toNat (by omega) (by omega) (by omega) w5)
      have hund : undef = Value.tuple #[] := rfl
      clear h1 h2
      go_wp2_with (first
        | (go_at_call 13; ((with_reducible refine (CA0.out _).mono ?_); rintro e' w9 ⟨rfl, rfl⟩))
        | (go_at_call 14; ((with_reducible refine CD0.out.mono ?_); rintro e' w9 ⟨rfl, rfl⟩))
        | (go_at_call 15; ((with_reducible refine CO0.out.mono ?_); rintro e' w9 ⟨rfl, rfl⟩))
        | (go_at_call 16; ((with_reducible refine CS0.out.mono ?_); rintro e' w9 ⟨rfl, rfl⟩))
        | (go_at_call 17; ((with_reducible refine CI0.out.mono ?_); rintro e' w9 ⟨rfl, rfl⟩))
        | (go_at_call 18; ((with_reducible refine CW0.out.mono ?_); rintro e' w9 ⟨rfl, rfl⟩))
        | (go_at_call 19; ((with_reducible refine CR0.out.mono ?_); rintro e' w9 ⟨rfl, rfl⟩))
        | (go_at_call 22; ((with_reducible refine (CB.out _).mono ?_); rintro e' w9 ⟨rfl, rfl⟩))
        | (go_at_call 11; ((with_reducible refine CN2.out.mono ?_); rintro e' w9 ⟨K2, rfl, _, _, _, _, b9⟩; have B9 := Lib.hid b9; clear b9)))
      go_ret
      exact ⟨rfl, G.below_on HB0.out B9.out⟩
end Go.Proofs.Ytaghookljjpllaa
