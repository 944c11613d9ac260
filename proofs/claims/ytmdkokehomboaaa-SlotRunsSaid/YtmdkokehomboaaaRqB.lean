/- The contracts of the document's layer 3 (hash): a key's number, functions, places. -/
import Derived.Test.YtmdkokehomboaaaRqA
import Derived.Test.YtmdkokehomboaaaHashR
import Derived.Test.YtmdkokehomboaaaFpMath
import Derived.Test.YtmdkokehomboaaaBlk
namespace Go.Proofs.Ytmdkokehomboaaa.R3
set_option linter.unusedSimpArgs false
set_option linter.unusedVariables false
set_option maxRecDepth 100000
open Go Go.ChangeShapes Go.WideShapes Go.ChangeAt Go.RowKit
theorem mul_any (a b : Nat) (ha : a < 2305843009213693951) (hb : b < 2305843009213693952) (w : World) :
    Calls Try.prog 34 #[.int .u64 a, .int .u64 b] w fun e w' => e = .returned (.int .u64 (a * b % 2305843009213693951 : Nat)) ∧ w = w' := by
  obtain ⟨T, hT⟩ : ∃ T, T = a * b % 2305843009213693951 := ⟨_, rfl⟩
  rw [← hT]
  have HT := Lib.hid hT
  clear hT
  go_enter Try.func34, Try.ntmps34
  go_wp2
  go_loopg [5, 6] 61 (fun k so si wr => ∃ (o : Nat), so = .int .u64 o ∧ si = .int .i64 ((k : Int) - 1) ∧ k ≤ 61 ∧ o < 2305843009213693951 ∧ Hid (o = a * (b / 2 ^ k) % 2305843009213693951) ∧ wr = w)
  case atStart =>
    refine ⟨0, rfl, rfl, by omega, by omega, Lib.hid ?_, rfl⟩
    rw [show b / 2 ^ 61 = 0 from Nat.div_eq_of_lt hb, Nat.mul_zero, Nat.zero_mod]
  case round =>
    obtain ⟨o, rfl, rfl, hk, ho, HJ, rfl⟩ := hrel
    cases gk with
    | zero =>
      go_wp2
      go_ret
      have := HJ.out
      rw [Nat.pow_zero, Nat.div_one] at this
      exact ⟨ret_i (by rw [this, HT.out]), rfl⟩
    | succ k =>
      rw [show ((k + 1 : Nat) : Int) - 1 = (k : Int) by omega]
      obtain ⟨o2, ho2⟩ : ∃ x, x = o * 2 % 2305843009213693951 := ⟨_, rfl⟩
      have e1 : (o : Int) * 2 % 2305843009213693951 = (o2 : Int) := by omega
      have ho2l : o2 < 2305843009213693951 := by omega
      obtain ⟨d, hd⟩ : ∃ d, d = b / 2 ^ k % 2 := ⟨_, rfl⟩
      have e2 : bits .and .u64 ((b : Int) / 2 ^ k) 1 = (d : Int) := by rw [Kn.div_cast, Ar.and_one _ (Nat.lt_of_le_of_lt (Nat.div_le_self _ _) (by omega)), hd]
      rcases Nat.mod_two_eq_zero_or_one (b / 2 ^ k) with g | g
      · have hj := Fp.add_even (a := a) (B := b) (k := k) (p := 2305843009213693951) g
        rw [← HJ.out, ← ho2] at hj
        have HJ2 := Lib.hid hj
        rw [g] at hd
        subst hd
        clear hj ho2 g
        go_wp2
        go_roundg k
        case measure => omega
        case rel => exact ⟨o2, by first | rfl | exact congrArg _ e1, rfl, by omega, ho2l, HJ2, rfl⟩
      · have hj := Fp.add_odd (a := a) (B := b) (k := k) (p := 2305843009213693951) g
        rw [← HJ.out, ← ho2] at hj
        obtain ⟨o3, ho3⟩ : ∃ x, x = (o2 + a) % 2305843009213693951 := ⟨_, rfl⟩
        have e3 : ((o2 : Int) + (a : Int)) % 2305843009213693951 = (o3 : Int) := by omega
        have ho3l : o3 < 2305843009213693951 := by omega
        rw [← ho3] at hj
        have HJ2 := Lib.hid hj
        rw [g] at hd
        subst hd
        clear hj ho2 g ho3
        go_wp2
        go_roundg k
        case measure => omega
        case rel => exact ⟨o3, by first | rfl | exact congrArg _ e3, rfl, by omega, ho3l, HJ2, rfl⟩
set_option maxHeartbeats 4000000 in
theorem of_any (X A B : Nat) (hX : X < 2305843009213693951) (hA : A < 2305843009213693951) (hB : B < 2305843009213693951) (s : ByteArray) (hs : s.size ≤ maxLen) (w : World) :
    Calls Try.prog 27 #[.agg #[.int .u64 X, .int .u64 A, .int .u64 B], .string s] w fun e w' => e = .returned (.int .u64 (Ha.hof X A B s.data.toList : Nat)) ∧ Below w.heap.size w w' := by
  unfold maxLen at hs
  obtain ⟨res, hr⟩ : ∃ r, r = Ha.hof X A B s.data.toList := ⟨_, rfl⟩
  rw [← hr]
  have HR := Lib.hid hr
  clear hr
  obtain ⟨h0, hh0⟩ : ∃ h, h = (s.size + 1) % 2305843009213693951 := ⟨_, rfl⟩
  have hh0l : h0 < 2305843009213693951 := by rw [hh0]; exact Nat.mod_lt _ (by omega)
  have es1 : ((s.size : Int) + 1) % 2305843009213693951 = (h0 : Int) := by omega
  have HH0 := Lib.hid hh0
  clear hh0
  have es0 : IntKind.u64.wrap (wrap64 ((s.size : Int) + 1)) = (s.size : Int) + 1 := by rw [IntKind.wrap_u64]; unfold wrap64; omega
  have es2 : ((s.size : Int) + 1).tmod 2305843009213693951 = (h0 : Int) := by rw [Int.tmod_eq_emod_of_nonneg (by omega)]; exact es1
  obtain ⟨w1, e1, k1, b1, s1⟩ := box_new w #[.int .u64 X, .int .u64 A, .int .u64 B] 41
  obtain ⟨rb, hrb⟩ : ∃ z, z = w.heap.size := ⟨_, rfl⟩
  rw [← hrb] at k1
  have K1 := Lib.hid k1
  have B1 := Lib.hid b1
  have k1r := k1.rd
  go_enter Try.func27, Try.ntmps27
  go_upto_region 1 with (fail)
  rw [← hrb]
  clear e1 k1 b1 s1 hrb
  go_wp2
  go_loopg [5, 6] s.size (fun k sh si wr => ∃ (i h : Nat), i ≤ s.size ∧ k = s.size - i ∧ si = .int .i64 (i : Int) ∧ sh = .int .u64 (h : Int) ∧ h < 2305843009213693951 ∧ Hid (Ha.poly X h (s.data.toList.drop i) = Ha.poly X h0 s.data.toList) ∧ wr = w1)
  case atStart => exact ⟨0, h0, by omega, by omega, rfl, by first | rfl | exact congrArg _ es1 | exact congrArg _ es2 | (rw [es0, es2]; done), hh0l, Lib.hid rfl, rfl⟩
  case round =>
    obtain ⟨i, h, hi, hk, rfl, rfl, hh, HJ, rfl⟩ := hrel
    have HK := Lib.hid hk
    have hsl : s.size = s.data.toList.length := Lib.size_eq s
    have HSL := Lib.hid hsl
    clear hk hsl
    by_cases hin : i < s.size
    · have d1 : decide ((i : Int) < (s.size : Int)) = true := by rw [decide_eq_true_iff]; omega
      go_wp2
      go_loopg [6, 7, 8] 7 (fun k si sw sk wq => ∃ (q j d : Nat), j ≤ 7 ∧ k = 7 - j ∧ q = i + j ∧ q ≤ s.size ∧ si = .int .i64 (q : Int) ∧ sw = .int .u64 (d : Int) ∧ sk = .int .i64 (j : Int) ∧ Hid (d = Ha.num ((s.data.toList.drop i).take j)) ∧ wq = wr)
      case atStart => exact ⟨i, 0, 0, by omega, by omega, by omega, by omega, rfl, rfl, rfl, Lib.hid rfl, rfl⟩
      case round =>
        obtain ⟨q, j, d, hj, hk, hq, hqs, rfl, rfl, rfl, HD, rfl⟩ := hrel
        have HK2 := Lib.hid hk
        clear hk
        by_cases hgo : j < 7 ∧ q < s.size
        · have hj7 := hgo.1
          have hqz := hgo.2
          have hlj : j < (s.data.toList.drop i).length := by have := HSL.out; rw [List.length_drop]; omega
          have hts : (s.data.toList.drop i).take (j + 1) = (s.data.toList.drop i).take j ++ [s[q]] := by
            rw [List.take_succ_eq_append_getElem hlj]
            congr 2
            rw [List.getElem_drop]
            subst hq
            rfl
          have hlt : d < 281474976710656 := by
            rw [HD.out]
            have := Ha.num_lt ((s.data.toList.drop i).take j).length ((s.data.toList.drop i).take j) rfl
            have h2 : 256 ^ ((s.data.toList.drop i).take j).length ≤ 256 ^ 6 := Nat.pow_le_pow_right (by decide) (by rw [List.length_take]; omega)
            exact Nat.lt_of_lt_of_le this h2
          have hby := UInt8.toNat_lt s[q]
          obtain ⟨m, hm⟩ : ∃ m, m = d * 256 + (s[q]).toNat := ⟨_, rfl⟩
          have e1 : (d : Int) * 256 + ((s[q]).toNat : Int) = (m : Int) := by omega
          have e2 : IntKind.u64.wrap ((s[q]).toNat : Int) = ((s[q]).toNat : Int) := Kn.wrapN _ (Nat.lt_trans hby (by omega))
          have HM : Hid (m = Ha.num ((s.data.toList.drop i).take (j + 1))) := Lib.hid (by rw [hts, Ha.num_snoc, ← HD.out, hm])
          have HQ := Lib.hid hq
          have g1 : decide ((j : Int) < 7) = true := by rw [decide_eq_true_iff]; omega
          have g2 : decide ((q : Int) < (s.size : Int)) = true := by rw [decide_eq_true_iff]; omega
          clear hts hm hlj hgo hq
          go_wp2
          go_roundg (7 - (j + 1))
          case measure => have := HK2.out; omega
          case rel => exact ⟨q + 1, j + 1, m, by omega, by omega, by have := HQ.out; omega, by omega, by go_num, by first | rfl | (rw [e2, e1]), by go_num, HM, rfl⟩
        · have hne : s.data.toList.drop i ≠ [] := by
            intro e
            have h1 := congrArg List.length e
            rw [List.length_drop, ← HSL.out] at h1
            have h2 : s.size - i = 0 := h1
            omega
          have hnum : d = Ha.num ((s.data.toList.drop i).take 7) := by
            rw [HD.out]
            by_cases g : j = 7
            · rw [g]
            · have hl : (s.data.toList.drop i).length ≤ j := by rw [List.length_drop, ← HSL.out]; omega
              rw [List.take_of_length_le hl, List.take_of_length_le (by omega)]
          have hdrop : (s.data.toList.drop i).drop 7 = s.data.toList.drop q := by
            rw [List.drop_drop]
            by_cases g : j = 7
            · rw [hq, g]
            · rw [List.drop_of_length_le (by rw [← HSL.out]; omega), List.drop_of_length_le (by rw [← HSL.out]; omega)]
          have hdl : d < 72057594037927936 := by rw [hnum]; exact Ha.num_lt7 _ (by rw [List.length_take]; omega)
          have hj2 := HJ.out
          rw [Ha.poly_cons hne, hdrop, ← hnum] at hj2
          have c1 := fun w => mul_any h X hh (by omega) w
          obtain ⟨pr, hpr⟩ : ∃ z, z = h * X % 2305843009213693951 := ⟨_, rfl⟩
          rw [← hpr] at c1 hj2
          have hprl : pr < 2305843009213693951 := by rw [hpr]; exact Nat.mod_lt _ (by omega)
          obtain ⟨h2, hh2⟩ : ∃ z, z = (pr + d) % 2305843009213693951 := ⟨_, rfl⟩
          rw [← hh2] at hj2
          have hh2l : h2 < 2305843009213693951 := by rw [hh2]; exact Nat.mod_lt _ (by omega)
          have e4 : ((pr : Int) + (d : Int)) % 2305843009213693951 = (h2 : Int) := by omega
          have e5 : ((pr : Int) + (d : Int)).tmod 2305843009213693951 = (h2 : Int) := by rw [Int.tmod_eq_emod_of_nonneg (by omega)]; exact e4
          have HJ2 := Lib.hid hj2
          have C1 := Lib.hid c1
          have hiq : i < q := by omega
          have g1 : decide ((j : Int) < 7) = decide (j < 7) := by by_cases g : j < 7 <;> simp <;> omega
          clear hne hnum hdrop hpr hh2 hj2 c1 hq
          have gg : decide (j < 7) = true ∨ decide (j < 7) = false := by cases decide (j < 7) <;> simp
          rcases gg with g2 | g2
          all_goals
            rw [g2] at g1
            have g3 : decide (j < 7) = true → decide ((q : Int) < (s.size : Int)) = false := fun h => by rw [decide_eq_true_iff] at h; rw [decide_eq_false_iff_not]; omega
            have g4 : decide (j < 7) = true → s.size ≤ q := fun h => by rw [decide_eq_true_iff] at h; omega
            first | (have g3 := g3 g2; have g4 := g4 g2; have g5 : ¬ q < s.size := (by omega); have g6 : decide (q < s.size) = false := decide_eq_false g5) | clear g3 g4
            clear hgo g2
            go_wp2_with (first
              | (go_at_call 34; (with_reducible refine (C1.out _).mono ?_); rintro e w' ⟨rfl, rfl⟩))
            go_roundg (s.size - q)
            case measure => have := HK.out; omega
            case rel => exact ⟨q, h2, hqs, rfl, rfl, by first | rfl | exact congrArg _ e4 | exact congrArg _ e5, hh2l, HJ2, rfl⟩
    · have htn : s.data.toList.drop i = [] := List.drop_of_length_le (by rw [← HSL.out]; omega)
      have hj := HJ.out
      rw [htn, Ha.poly_nil, HH0.out] at hj
      obtain ⟨p, hp⟩ : ∃ p, p = h * A % 2305843009213693951 := ⟨_, rfl⟩
      have hpl : p < 2305843009213693951 := by rw [hp]; exact Nat.mod_lt _ (by omega)
      have hrr : (p + B) % 2305843009213693951 = res := by
        rw [HR.out, hp, hj, HSL.out]; rfl
      have e4 : ((p : Int) + (B : Int)) % 2305843009213693951 = (res : Int) := by omega
      have e5 : ((p : Int) + (B : Int)).tmod 2305843009213693951 = (res : Int) := by rw [Int.tmod_eq_emod_of_nonneg (by omega)]; exact e4
      have c1 := fun w => mul_any h A hh (by omega) w
      rw [← hp] at c1
      have C1 := Lib.hid c1
      have d1 : decide ((i : Int) < (s.size : Int)) = false := by rw [decide_eq_false_iff_not]; omega
      clear c1 hp hrr hj htn
      go_wp2
      go_quiet ((first
        | (go_at_call 34; exact Calls.quiet_of_same ((C1.out _).mono fun _ _ h => ⟨h.1, h.2.symm⟩))))
      go_wp2
      go_ret
      exact ⟨by first | rfl | rw [e4] | rw [e5], below_draws B1.out _⟩
end Go.Proofs.Ytmdkokehomboaaa.R3
