/- The law PoolIdle of layer 10 (pool), walked. -/
import Derived.Test.YtojbhmchpglmgaaPlS
namespace Go.Proofs.Ytojbhmchpglmgaa
set_option linter.unusedSimpArgs false
set_option linter.unusedVariables false
open Go.ChangeShapes Go.WideShapes Go.ChangeAt Go.RowKit Go.Shelf
open Ar (inR)
/-- which of the first ones is the first idle one. -/
def fstI (zs : List Int) (t : Int) (i : Nat) : Option Nat := (List.range i).find? fun j => decide (zs.getD j 0 % 64 + 10 ≤ t)
def fstK : Option Nat → ByteArray
  | some j => kyA j
  | none => ⟨#[]⟩
theorem fstI_yes {zs : List Int} {t : Int} {i : Nat} (h : fstI zs t i = none) (hc : zs.getD i 0 % 64 + 10 ≤ t) : fstI zs t (i + 1) = some i := by
  unfold fstI at h ⊢
  rw [List.range_succ, List.find?_append, h]
  simp only [List.find?_cons, decide_eq_true hc, Option.none_or]
theorem fstI_no {zs : List Int} {t : Int} {i : Nat} (hc : fstI zs t i ≠ none ∨ ¬ zs.getD i 0 % 64 + 10 ≤ t) : fstI zs t (i + 1) = fstI zs t i := by
  unfold fstI at hc ⊢
  rw [List.range_succ, List.find?_append]
  cases h : (List.range i).find? fun j => decide (zs.getD j 0 % 64 + 10 ≤ t) with
  | some j => rfl
  | none =>
    rcases hc with hc | hc
    · exact absurd h hc
    · simp only [List.find?_cons, List.find?_nil, decide_eq_false hc, Option.none_or]
def fJ (zs : List Int) (j : Nat) : Cel := (zs.getD j 0 % 64, zs.getD j 0 % 64, 0, 0)
theorem idleG_J {s t : Int} (h0 : 0 ≤ s ∧ s < 64) (ht : 0 ≤ t ∧ t < 64) : idleG s s 10 t = decide (s + 10 ≤ t) := by
  unfold idleG
  have e1 : clamp (s + 10) = s + 10 := clamp_in (by unfold inR; omega)
  have e2 : IntKind.i64.wrap (t - 10) = t - 10 := by rw [IntKind.wrap_i64]; omega
  rw [e1, e2]
  by_cases h : s + 10 ≤ t
  · rw [decide_eq_true h, decide_eq_false (show ¬ t < s + 10 by omega), decide_eq_true (show s ≤ t - 10 by omega)]; rfl
  · rw [decide_eq_false h, decide_eq_true (show t < s + 10 by omega)]; rfl
theorem plIdle_J (zs : List Int) (t : Int) (ht : 0 ≤ t ∧ t < 64) (i : Nat) : plIdle ((List.range i).map fun j => (kyA j, fJ zs j)) 10 t = (fstI zs t i).map fun j => (kyA j, fJ zs j) := by
  unfold plIdle fstI
  rw [List.find?_map]
  congr 2
  funext j
  show idleG (zs.getD j 0 % 64) (zs.getD j 0 % 64) 10 t = _
  exact idleG_J (by omega) ht
theorem plnew_no (n : Int) (hn : n < 1 ∨ 1024 < n) (X A B : Int) (w : World) : Calls Try.prog 8 #[.int .i64 n, .agg #[.int .u64 X, .int .u64 A, .int .u64 B]] w fun e w' => e = .returned (.pointer none) ∧ Below w.heap.size w w' := by
  by_cases h : n < 1
  · have t1 : decide (n < 1) = true := decide_eq_true h
    clear hn h
    go_enter Try.func8, Try.ntmps8
    go_wp2
    go_ret
    exact ⟨rfl, (Below.refl _ _).alloc (Nat.le_refl _) _⟩
  · have t1 : decide (n < 1) = false := decide_eq_false h
    have t2 : decide (1024 < n) = true := decide_eq_true (by omega)
    clear hn h
    go_enter Try.func8, Try.ntmps8
    go_wp2
    go_ret
    exact ⟨rfl, (Below.refl _ _).alloc (Nat.le_refl _) _⟩
set_option maxRecDepth 100000 in
set_option maxHeartbeats 8000000 in
theorem plidle_law (w : World) (A : Option Addr) (n c : Nat) (zs : List Int) (t : Int) (hr : RdI w .i64 A n c zs) (ht : inR t) :
    Calls Try.prog 4 #[.slice A n c, .int .i64 t] w fun e w' => e = .returned (.bool true) ∧ Below w.heap.size w w' := by
  have hmx := hr.max
  unfold maxLen at hmx
  have hcp := hr.cap
  by_cases hn : (20 : Int) < (n : Int)
  · clear hr ht
    go_enter Try.func4, Try.ntmps4
    go_wp2_with (go_at_call 7; refine (plfit_any _).mono ?_; rintro e w1 ⟨rfl, bb⟩; have B1 := Lib.hid bb; clear bb)
    go_ret
    exact ⟨rfl, B1.out⟩
  have hn2 : (n : Int) ≤ 20 := by omega
  have HR := Lib.hid hr
  obtain ⟨m, hm, hm0⟩ : ∃ m : Int, t % 64 = m ∧ (0 ≤ m ∧ m < 64) := ⟨_, rfl, by omega⟩
  have eb : bits BinOp.and IntKind.i64 t 63 = m := by rw [i64_mask6, hm]
  clear hr hn hm ht
  go_enter Try.func4, Try.ntmps4
  go_wp2_with (fail)
  refine (plfit_any w).mono ?_
  rintro e w1 ⟨rfl, b1⟩
  have B1 := Lib.hid b1
  clear b1
  go_wp2_with (fail)
  have cof := of_any 5 10 2 0 0 0 0 0 false (by unfold inR; omega) (by unfold inR; omega) (by unfold inR; omega) w1
  refine (show Calls Try.prog 17 #[.agg #[.int .i64 5, .int .i64 10, .int .i64 2, .int .i64 0, .int .i64 0, .int .i64 0, .int .i64 0, .int .i64 0, .bool false]] w1 (fun e w' => e = .returned (pv 3 10 2 5) ∧ Below w1.heap.size w1 w') from cof).mono ?_
  clear cof
  rintro e w2 ⟨rfl, b2⟩
  obtain ⟨w3, hw3, k3, l3, s3⟩ := box_new w2 #[.int .i64 0, .int .i64 0, .int .i64 0, .int .i64 0] 52
  have k3r := k3.rd
  have k3w := k3.wr
  go_upto_region 6 with (fail)
  rw [four_setC k3]
  have k4 : Blk (setObj w3 w2.heap.size (.cells #[.int .i64 3, .int .i64 10, .int .i64 2, .int .i64 5] 52 (0, 0))) w2.heap.size 52 #[.int .i64 3, .int .i64 10, .int .i64 2, .int .i64 5] := setObj_at (lt_of_block k3) _
  have b4 := below_in (below_in B1.out b2) (l3.trans ((fr_one w3 w2.heap.size (.cells #[.int .i64 3, .int .i64 10, .int .i64 2, .int .i64 5] 52 (0, 0))).below l3.size (fun k hk => by omega)))
  obtain ⟨b5, hb5⟩ : ∃ x, x = w2.heap.size := ⟨_, rfl⟩
  have HB5 := Lib.hid (show w.heap.size ≤ b5 from by have := (below_in B1.out b2).size; omega)
  rw [← hb5] at k4 b4 ⊢
  generalize (setObj w3 b5 (.cells #[.int .i64 3, .int .i64 10, .int .i64 2, .int .i64 5] 52 (0, 0))) = w4 at k4 b4 ⊢
  have K4 := Lib.hid (And.intro k4 b4)
  clear k4 b4 hb5 k3 k3r k3w hw3 l3 s3 b2
  go_wp2_with (fail)
  refine (show Calls Try.prog 8 #[.int .i64 20, .agg #[.int .u64 3, .int .u64 5, .int .u64 0]] w4 _ from plnew_any 3 5 0 (by omega) (by omega) (by omega) 20 (by omega) (by omega) w4).mono ?_
  rintro e w5 ⟨Q, rfl, h5, hN, hnew, l5⟩
  have HN := Lib.hid hN
  have HQ := Lib.hid (show ∀ k, Q.all k → b5 < k from fun k hk => by have := hnew k hk; have := lt_of_block K4.out.1; omega)
  have S5 := Lib.hid (show PlB w w5 Q (stA 20 0) (cA 20 0 (fJ zs)) ∧ Blk w5 b5 52 #[.int .i64 3, .int .i64 10, .int .i64 2, .int .i64 5] from ⟨by
    rw [stA_new, cA_zero]
    exact ⟨h5, below_in K4.out.2 l5, fun k hk => Nat.le_trans K4.out.2.size (hnew k hk)⟩, K4.out.1.keep l5⟩)
  have RD5 := Lib.hid (HR.out.below (S5.out.1.bl))
  clear h5 hN hnew l5 K4
  go_wp2
  go_loopg [33, 7, 8] n (fun k si sw so wr => ∃ i : Nat, si = .int .i64 (i : Int) ∧ i ≤ n ∧ Hid (k = n - i) ∧ sw = .string (fstK (fstI zs m i)) ∧ so = .bool (fstI zs m i).isSome ∧ Hid (PlB w wr Q (stA 20 i) (cA 20 i (fJ zs)) ∧ Blk wr b5 52 #[.int .i64 3, .int .i64 10, .int .i64 2, .int .i64 5]))
  case atStart => exact ⟨0, rfl, by omega, Lib.hid rfl, rfl, rfl, S5⟩
  case round =>
    obtain ⟨i, rfl, hi, HK, rfl, rfl, RI⟩ := hrel
    by_cases hin : i < n
    · have t1 : (i : Int) < (n : Int) := by omega
      obtain ⟨b, off, rfl, hbl, hc⟩ := (HR.out.below RI.out.1.bl).at_ (by omega)
      have kc := hc i hin
      obtain ⟨z, hz⟩ : ∃ z, z = zs.getD i 0 := ⟨_, rfl⟩
      rw [← hz] at kc
      obtain ⟨s, hs, hs0⟩ : ∃ s : Int, z % 64 = s ∧ (0 ≤ s ∧ s < 64) := ⟨_, rfl, by omega⟩
      have ez : bits BinOp.and IntKind.i64 z 63 = s := by rw [i64_mask6, hs]
      have e1 : IntKind.i64.wrap (97 + (i : Int)) = 97 + (i : Int) := by rw [IntKind.wrap_i64]; omega
      have e2 : IntKind.u8.wrap (97 + (i : Int)) = 97 + (i : Int) := by rw [IntKind.wrap_u8]; omega
      have e3 : IntKind.i64.wrap (s + 10) = s + 10 := by rw [IntKind.wrap_i64]; omega
      have hcv : (convert 56 9 (.slice (some ⟨wr.heap.size, 0, none⟩) 1 1)).run Try.prog (wr.alloc (.cells #[.int .u8 (97 + (i : Int))] 5)) = .ok (.string (kyA i)) (wr.alloc (.cells #[.int .u8 (97 + (i : Int))] 5)) := by
        have := conv_str (P := Try.prog) (dst := 9) Try.underlying56 Try.underlying5 Try.underlying9 (one_rd ((show Blk (wr.alloc (.cells #[.int .u8 (97 + (i : Int))] 5)) wr.heap.size 5 #[.int .u8 (97 + (i : Int))] from heap_alloc_new wr _).rd 0) (u8_wf (by omega)))
        rw [this]; unfold kyA; rw [Int.natCast_add]; rfl
      have HIN := Lib.hid hin
      have HFJ := Lib.hid (show fJ zs i = (s, s, 0, 0) by unfold fJ; rw [← hz, hs])
      have HZ := Lib.hid (show zs.getD i 0 % 64 = s by rw [← hz, hs])
      clear hc hbl hz hs
      go_upto_region 13 with (fail)
      have b6 : Below wr.heap.size wr (wr.alloc (.cells #[.int .u8 (97 + (i : Int))] 5)) := (Below.refl _ _).alloc (Nat.le_refl _) _
      have R6 := Lib.hid (show PlB w (wr.alloc (.cells #[.int .u8 (97 + (i : Int))] 5)) Q (stA 20 i) (cA 20 i (fJ zs)) ∧ Blk (wr.alloc (.cells #[.int .u8 (97 + (i : Int))] 5)) b5 52 #[.int .i64 3, .int .i64 10, .int .i64 2, .int .i64 5] from ⟨RI.out.1.keep b6, RI.out.2.keep b6⟩)
      clear hcv b6 kc
      generalize (wr.alloc (.cells #[.int .u8 (97 + (i : Int))] 5)) = w6 at R6 ⊢
      go_wp2_with (fail)
      refine (show Calls Try.prog 11 #[.int .i64 s, .int .i64 0] w6 _ from new_any s 0 w6).mono ?_
      rintro e w7 ⟨rfl, b7⟩
      obtain ⟨x1, x2, ex1, kr, kw, ex2, bl2, kc2⟩ := cbox w7 (s, s, 0, 0)
      have R7 := Lib.hid (And.intro ((R6.out.1.keep b7).keep bl2) ((R6.out.2.keep b7).keep bl2))
      have KC := Lib.hid (And.intro ex2 kc2)
      have kc3 := kc2.rd
      clear b7 bl2 ex2 kc2
      go_upto_region 14 with (fail)
      rw [KC.out.1]
      clear kr kw ex1
      have CP := Lib.hid (show Calls Try.prog 10 #[.pointer (some ⟨Q.p, 0, none⟩), .string (kyA i), celV (s, s, 0, 0)] x2 (fun e w' => e = .returned (.pointer (some ⟨Q.cb, i * 4, none⟩)) ∧ PlB w w' Q (stA 20 (i + 1)) (cA 20 (i + 1) (fJ zs)) ∧ Blk w' b5 52 #[.int .i64 3, .int .i64 10, .int .i64 2, .int .i64 5]) from by
        have := plput_any (kyA i) (by rw [kyA_size]; unfold maxLen; omega) (s, s, 0, 0) x2 R7.out.1.at_
        rw [HN.out, stA_put (by have := HIN.out; omega) (by omega)] at this
        refine this.mono (fun e w' hh => ⟨hh.1, ?_, R7.out.2.fr hh.2.2 (fun hF => by have := HQ.out _ (Or.inl hF); omega)⟩)
        have h2 := R7.out.1.step hh.2.1 hh.2.2
        rw [← HFJ.out] at h2
        rw [show plSet (cA 20 i (fJ zs)) (fJ zs i) (some i) = _ from cA_set (m := 20) (i := i) (fJ zs)] at h2
        exact h2)
      by_cases hok : fstI zs m i = none
      · by_cases hc : s + 10 ≤ m
        · have e5 : fstI zs m (i + 1) = some i := fstI_yes hok (by rw [HZ.out]; exact hc)
          have t6 : decide (s + 10 ≤ m) = true := decide_eq_true hc
          have HE := Lib.hid e5
          clear e5
          simp only [hok, Option.isSome_none]
          go_wp2_with (go_at_call 10; refine CP.out.mono ?_; rintro e w8 ⟨rfl, h8, k8⟩; have R8 := Lib.hid (And.intro h8 k8); clear h8 k8)
          go_roundg (n - (i + 1))
          case measure => have := HK.out; have := HIN.out; omega
          case rel => exact ⟨i + 1, by go_num, HIN.out, Lib.hid rfl, by rw [HE.out]; rfl, by rw [HE.out]; rfl, R8⟩
        · have e5 : fstI zs m (i + 1) = fstI zs m i := fstI_no (Or.inr (by rw [HZ.out]; exact hc))
          have t6 : decide (s + 10 ≤ m) = false := decide_eq_false hc
          have HE := Lib.hid (e5.trans hok)
          clear e5
          simp only [hok, Option.isSome_none]
          go_wp2_with (go_at_call 10; refine CP.out.mono ?_; rintro e w8 ⟨rfl, h8, k8⟩; have R8 := Lib.hid (And.intro h8 k8); clear h8 k8)
          go_roundg (n - (i + 1))
          case measure => have := HK.out; have := HIN.out; omega
          case rel => exact ⟨i + 1, by go_num, HIN.out, Lib.hid rfl, by rw [HE.out], by rw [HE.out]; rfl, R8⟩
      · obtain ⟨j, hj⟩ := Option.ne_none_iff_exists'.1 hok
        have e5 : fstI zs m (i + 1) = fstI zs m i := fstI_no (Or.inl hok)
        have HE := Lib.hid (e5.trans hj)
        clear e5 hok
        simp only [hj, Option.isSome_some]
        go_wp2_with (go_at_call 10; refine CP.out.mono ?_; rintro e w8 ⟨rfl, h8, k8⟩; have R8 := Lib.hid (And.intro h8 k8); clear h8 k8)
        go_roundg (n - (i + 1))
        case measure => have := HK.out; have := HIN.out; omega
        case rel => exact ⟨i + 1, by go_num, HIN.out, Lib.hid rfl, by rw [HE.out], by rw [HE.out]; rfl, R8⟩
    · have hie : i = n := by omega
      subst hie
      have kp := RI.out.2.rd
      have CI := Lib.hid (show Calls Try.prog 18 #[.pointer (some ⟨Q.p, 0, none⟩), pv 3 10 2 5, .int .i64 m] wr (fun e w' => e = .returned (.tuple #[.string (fstK (fstI zs m i)), .bool (fstI zs m i).isSome]) ∧ Below wr.heap.size wr w') from by
        have := plidle_any Q (stA 20 i) (cA 20 i (fJ zs)) 3 10 2 5 m (by unfold inR; omega) wr RI.out.1.at_ (fun x hx => by
          obtain ⟨j, hj, hx⟩ := List.getElem_of_mem hx
          have hj2 : j < 20 := by unfold cA at hj; simpa using hj
          have := cA_get (i := i) (fJ zs) hj2
          rw [List.getElem?_eq_getElem hj, hx] at this
          rw [Option.some.inj this]
          split
          · show inR (zs.getD j 0 % 64); unfold inR; omega
          · show inR 0; unfold inR; omega)
        rw [HN.out, plL_stA 20 i _ (by omega), plIdle_J zs m hm0 i] at this
        refine this.mono (fun e w' hh => ⟨?_, hh.2⟩)
        obtain ⟨⟨x, hx⟩, _⟩ := hh
        cases hf : fstI zs m i with
        | none =>
          rw [hf] at hx
          rcases hx with ⟨h, _⟩ | ⟨_, h⟩
          · cases h
          · exact h
        | some j =>
          rw [hf] at hx
          rcases hx with ⟨h, h'⟩ | ⟨h, _⟩
          · rw [h', ← (Option.some.inj h)]; rfl
          · cases h)
      have BL := Lib.hid RI.out.1.bl
      have CN1 := Lib.hid (fun w => plidle_nil (pv 3 10 2 5) ⟨3, 10, 2, 5, rfl⟩ m w)
      have CN2 := Lib.hid (fun w => plremove_nil ⟨#[97]⟩ w)
      have CN3 := Lib.hid (fun w => plfull_nil w)
      have CN4 := Lib.hid (fun w => pllen_nil w)
      have CN5 := Lib.hid (fun w => plfind_nil ⟨#[97]⟩ w)
      have CN6 := Lib.hid (fun w => plput_nil ⟨#[97]⟩ (0, 0, 0, 0) w)
      have CN7 := Lib.hid (fun w => plnew_no 0 (by omega) 0 0 0 w)
      have CN8 := Lib.hid (fun w => plnew_no 1025 (by omega) 0 0 0 w)
      obtain ⟨K, hK⟩ : ∃ K, K = fstK (fstI zs m i) := ⟨_, rfl⟩
      obtain ⟨v, hv⟩ : ∃ v, v = (fstI zs m i).isSome := ⟨_, rfl⟩
      rw [← hK, ← hv] at CI ⊢
      have t8 : (v == v) = true := by cases v <;> rfl
      have KP := Lib.hid RI.out.2
      clear hK hv RI HR RD5 S5
      go_upto_region 20 with (first
        | (go_at_call 18; refine CI.out.mono ?_; rintro e w8 ⟨rfl, b8⟩; have B8 := Lib.hid (And.intro (below_in BL.out b8) (KP.out.keep b8)); clear b8))
      have kp := B8.out.2.rd
      go_upto_region 22 with (go_at_call 18; refine (CN1.out _).mono ?_; rintro e w9 ⟨rfl, b9⟩; have B9 := Lib.hid (below_in B8.out.1 b9); clear b9)
      go_upto_region 23 with (go_at_call 12; refine (CN2.out _).mono ?_; rintro e wa ⟨rfl, ba⟩; have BA := Lib.hid (below_in B9.out ba); clear ba; obtain ⟨x1, x2, ex1, kr, kw, ex2, bl2, kc2⟩ := cbox wa (0, 0, 0, 0))
      have BX := Lib.hid (below_in BA.out bl2)
      clear ex1 kr kw ex2 bl2 kc2 kp
      go_wp2_with (first
        | (go_at_call 15; refine (CN3.out _).mono ?_; rintro e wb ⟨rfl, bb⟩; have BB := Lib.hid (below_in BX.out bb); clear bb)
        | (go_at_call 14; refine (CN4.out _).mono ?_; rintro e wb ⟨rfl, rfl⟩)
        | (go_at_call 13; refine (CN5.out _).mono ?_; rintro e wb ⟨rfl, rfl⟩)
        | (go_at_call 10; refine (CN6.out _).mono ?_; rintro e wc ⟨rfl, bc⟩; have BC := Lib.hid (below_in BB.out bc); clear bc)
        | (go_at_call 8; refine (CN7.out _).mono ?_; rintro e wd ⟨rfl, bd⟩; have BD := Lib.hid (below_in BC.out bd); clear bd CN7)
        | (go_at_call 8; refine (CN8.out _).mono ?_; rintro e we ⟨rfl, be⟩; have BE := Lib.hid (below_in BD.out be); clear be))
      go_ret
      exact ⟨rfl, BE.out⟩
end Go.Proofs.Ytojbhmchpglmgaa
