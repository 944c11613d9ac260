/- The laws of layer 19 (script), walked: heads. -/
import Derived.Test.YtodlgkpgpffpaaaScF
namespace Go.Proofs.Ytodlgkpgpffpaaa
open Go.ChangeShapes Go.WideShapes Go.ChangeAt Go.RowKit
theorem later_small (y : Int) (h : 0 ≤ y ∧ y < 256) : laterZ 0 y = y := by
  have e : byZ y = y := by
    unfold byZ
    rw [show y / 4096 = 0 by omega, show y % 4096 = y by omega]
    simp
  rw [laterZ, e, if_neg (by omega)]
  omega
theorem dec_one (f : Nat) (n now : Int) : (decF (f + 2) [n] now).length = 1 := by
  rw [decF, if_neg (by simp), List.length_cons]
  have h : (stepA [n] now).2 = [] := by
    have := step_shorter now (show [n] ≠ [] by simp)
    simp at this
    exact this
  rw [h, decF]
  simp
theorem dec_nil (f : Nat) (now : Int) : decF f [] now = [] := by cases f <;> simp [decF]
theorem heads_dec (x y n : Int) (hx : 0 ≤ x ∧ x < 256) (hy : 0 ≤ y ∧ y < 256) (hn : 0 ≤ n ∧ n < 256) :
    ∃ r, decF 4 [x, 0, y, n] 0 = ⟨x % 5, y, x / 5 % 16, 0, if x % 5 = 3 then n else 0, if x % 5 = 4 then (n % 4).toNat else 0⟩ :: r ∧ r.length = if x % 5 = 2 ∨ x % 5 = 3 ∨ x % 5 = 4 then 0 else 1 := by
  have e1 : preZ [x, 0, y, n] 1 = x := by simp [preZ]
  have e2 : preZ [0, y, n] 2 = y := by simp [preZ]
  have e3 : preZ [n] 1 = n := by simp [preZ]
  have el := later_small y hy
  rw [decF, if_neg (by simp)]
  unfold stepA
  simp only [e1, e2, e3, el, List.drop_succ_cons, List.drop_zero]
  by_cases h2 : x % 5 = 2
  · refine ⟨_, by rw [if_pos h2]; simp [h2]; rfl, ?_⟩
    rw [if_pos (Or.inl h2), dec_nil]; rfl
  · by_cases h3 : x % 5 = 3
    · refine ⟨_, by rw [if_neg h2, if_pos h3]; simp [h3]; rfl, ?_⟩
      rw [if_pos (Or.inr (Or.inl h3)), dec_nil]; rfl
    · by_cases h4 : x % 5 = 4
      · refine ⟨_, by rw [if_neg h2, if_neg h3, if_pos h4]; simp [h4]; rfl, ?_⟩
        rw [if_pos (Or.inr (Or.inr h4)), dec_nil]; rfl
      · refine ⟨_, by rw [if_neg h2, if_neg h3, if_neg h4]; simp [h3, h4]; rfl, ?_⟩
        rw [if_neg (by simp [h2, h3, h4]), dec_one]
theorem u8_mask2 (n : Nat) (h : n < 256) : bits .and .u8 (n : Int) 3 = ((n % 4 : Nat) : Int) := by
  have hm : (BitVec.ofInt 8 3).toNat = 2 ^ 2 - 1 := by decide
  have key : (BitVec.ofInt 8 (n : Int) &&& BitVec.ofInt 8 3).toNat = ((n : Int) % ((2 ^ 8 : Nat) : Int)).toNat % 2 ^ 2 := by
    rw [BitVec.toNat_and, BitVec.toNat_ofInt, hm, Nat.and_two_pow_sub_one_eq_mod]
  show IntKind.u8.wrap ((BitVec.ofInt 8 (n : Int) &&& BitVec.ofInt 8 3).toNat : Nat) = _
  rw [key, IntKind.wrap_u8]
  omega
theorem heads_law (w : World) (x y n : Nat) (hx : x < 256) (hy : y < 256) (hn : n < 256) :
    Calls Try.prog 6 #[.int .u8 (x : Int), .int .u8 (y : Int), .int .u8 (n : Int)] w fun e w' => e = .returned (.bool true) ∧ Below w.heap.size w w' := by
  obtain ⟨r, hr, hrl⟩ := heads_dec x y n (by omega) (by omega) (by omega)
  have hk5 : (x : Int) % 5 = 0 ∨ (x : Int) % 5 = 1 ∨ (x : Int) % 5 = 2 ∨ (x : Int) % 5 = 3 ∨ (x : Int) % 5 = 4 := by omega
  have en : ((n : Int) % 4).toNat = n % 4 := by omega
  rcases hk5 with hk | hk | hk | hk | hk
  all_goals
    rw [hk, en] at hr
    rw [hk] at hrl
    simp only [show (0 : Int) ≠ 2 by decide, show (0 : Int) ≠ 3 by decide, show (0 : Int) ≠ 4 by decide, show (1 : Int) ≠ 2 by decide, show (1 : Int) ≠ 3 by decide, show (1 : Int) ≠ 4 by decide, show (2 : Int) ≠ 3 by decide, show (2 : Int) ≠ 4 by decide, show (3 : Int) ≠ 2 by decide, show (3 : Int) ≠ 4 by decide, show (4 : Int) ≠ 2 by decide, show (4 : Int) ≠ 3 by decide, if_true, if_false, or_false, false_or, or_true, true_or] at hr hrl
    have HR := Lib.hid hr
    have em := u8_mask2 n hn
    clear hr
    go_enter Try.func6, Try.ntmps6
    go_upto_region 4 with (first
      | (go_at_call 7; refine (fit_any _).mono ?_; rintro e w1 ⟨rfl, b1⟩; have B1 := Lib.hid b1; have NW := Lib.hid (heap_alloc_new w1 (.cells #[.int .u8 (x : Int), .int .u8 0, .int .u8 (y : Int), .int .u8 (n : Int)] 5)); have CD := Lib.hid (decode_x (some ⟨w1.heap.size, 0, none⟩) 4 4 [(x : Int), 0, (y : Int), (n : Int)] _ (rd_blk (k := .u8) NW.out rfl (by decide) (by intro z hz; simp at hz; apply u8_wf; rcases hz with h | h | h | h <;> omega)) (by omega)); clear b1)
      | (go_at_call 11; ((with_reducible refine CD.out.mono ?_); rintro e w2 ⟨A1, c1, ls, rfl, ha, hd, hb⟩; have HA := Lib.hid ha; have HD := Lib.hid hd; have HB := Lib.hid (B1.out.trans ((Below.trans ((Below.refl w1.heap.size w1).alloc (Nat.le_refl _) _) (hb.mono (by simp))).mono B1.out.size)); clear ha hd hb)))
    have hd := HD.out
    rw [show ([(x : Int), 0, (y : Int), (n : Int)] : List Int).length = 4 from rfl, HR.out] at hd
    cases ls with
    | nil => simp at hd
    | cons a rest =>
      rw [List.map_cons, List.cons.injEq] at hd
      obtain ⟨ha, hrest⟩ := hd
      have hlen : rest.length = r.length := by rw [← hrest, List.length_map]
      obtain ⟨kd, ck, cn, aA, dl, dc, an, aB, sl, sc⟩ := a
      simp only [ActV.to6, Act6.mk.injEq] at ha
      obtain ⟨rfl, rfl, rfl, rfl, rfl, rfl⟩ := ha
      obtain ⟨g, rfl, _, hlt, hc⟩ := HA.out.at_ (by simp)
      have hcap := HA.out.cap
      have hmx := HA.out.max
      unfold maxLen at hmx
      have c0 := hc 0 (by simp) 0 (by omega)
      have c1 := hc 0 (by simp) 1 (by omega)
      have c2 := hc 0 (by simp) 2 (by omega)
      have c3 := hc 0 (by simp) 3 (by omega)
      have c4 := hc 0 (by simp) 4 (by omega)
      have c5 := hc 0 (by simp) 5 (by omega)
      simp [ActV.cells] at c0 c1 c2 c3 c4 c5
      simp only [List.length_cons] at hcap
      clear hc hrest
      rw [hrl] at hlen
      have HLN := Lib.hid hlen
      go_wp2
      go_ret
      refine ⟨?_, HB.out.alloc HB.out.size _⟩
      first | rfl | (go_num)
end Go.Proofs.Ytodlgkpgpffpaaa
