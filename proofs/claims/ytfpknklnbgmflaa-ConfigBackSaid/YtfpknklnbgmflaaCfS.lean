/- The contracts of layer 17 (config): numbers written. -/
import Derived.Test.YtfpknklnbgmflaaCfP
namespace Go.Proofs.Ytfpknklnbgmflaa
set_option linter.unusedSimpArgs false
set_option linter.unusedVariables false
open Go.ChangeShapes Go.WideShapes Go.ChangeAt Go.RowKit Go.Deep
theorem be8_take (x : Int) (j : Nat) (h : j < 8) : (be 8 x).take (j + 1) = (be 8 x).take j ++ [x / 256 ^ (7 - j) % 256] := by
  have e : be 8 x = [x / 256 ^ 7 % 256, x / 256 ^ 6 % 256, x / 256 ^ 5 % 256, x / 256 ^ 4 % 256, x / 256 ^ 3 % 256, x / 256 ^ 2 % 256, x / 256 ^ 1 % 256, x / 256 ^ 0 % 256] := by
    rw [be_cons, be_cons, be_cons, be_cons, be_cons, be_cons, be_cons, be_cons]; rfl
  rw [e]
  match j, h with
  | 0, _ => rfl
  | 1, _ => rfl
  | 2, _ => rfl
  | 3, _ => rfl
  | 4, _ => rfl
  | 5, _ => rfl
  | 6, _ => rfl
  | 7, _ => rfl
def flat8 : List Int → List Int
  | [] => []
  | x :: l => be 8 x ++ flat8 l
theorem flat8_app : ∀ l m, flat8 (l ++ m) = flat8 l ++ flat8 m
  | [], _ => rfl
  | x :: l, m => by rw [List.cons_append, flat8, flat8, flat8_app l m, List.append_assoc]
theorem flat8_length : ∀ l, (flat8 l).length = 8 * l.length
  | [] => rfl
  | x :: l => by rw [flat8, List.length_append, be_length, flat8_length l, List.length_cons]; omega
set_option maxHeartbeats 8000000 in
set_option maxRecDepth 100000 in
theorem cwritten_any (B g n : Nat) (v : Value) (bs xs : List Int) (hl : xs.length = n) (hn : n ≤ 10) (hxs : ∀ x ∈ xs, i64P x) (hm : bs.length ≤ 1000000) (w : World) (ho : Own w B v bs) (hB : B ≤ w.heap.size) (hg : Blk w g 2 (xs.map (Value.int .i64)).toArray) :
    Calls Try.prog 30 #[v, .slice (some ⟨g, 0, none⟩) n n] w fun e w' => ∃ v', e = .returned v' ∧ Own w' B v' (bs ++ flat8 xs) ∧ FrU B w w' := by
  have HO := Lib.hid ho
  have HBS := Lib.hid hB
  have HG := Lib.hid hg
  have HL := Lib.hid hl
  have HX := Lib.hid hxs
  have hnb : (n : Int) ≤ 10 := by omega
  clear ho hB hg hl hxs
  go_enter Try.func30, Try.ntmps30
  go_upto_region 2 with (fail)
  go_loopg [0, 10] n (fun k s0 s10 wr => ∃ i : Nat, i ≤ n ∧ k = n - i ∧ s10 = .int .i64 (i : Int) ∧ Own wr B s0 (bs ++ flat8 (xs.take i)) ∧ FrU B w wr)
  case atStart => exact ⟨0, by omega, by omega, rfl, by simpa [flat8] using HO.out, FrU.refl _ _⟩
  case round =>
    obtain ⟨i, hi, hkk, rfl, hown, hf⟩ := hrel
    have HK := Lib.hid hkk
    have HO1 := Lib.hid hown
    have HF := Lib.hid hf
    clear hkk hown hf
    by_cases hin : i < n
    · have hix : i < xs.length := by rw [HL.out]; exact hin
      obtain ⟨x, hx⟩ : ∃ x, x = xs[i] := ⟨_, rfl⟩
      have hxb : i64P x := by rw [hx]; exact HX.out _ (List.getElem_mem hix)
      unfold i64P at hxb
      have HFL := Lib.hid (show flat8 (xs.take (i + 1)) = flat8 (xs.take i) ++ be 8 x from by
        rw [List.take_succ_eq_append_getElem hix, flat8_app, ← hx]; simp [flat8])
      have hb := (HF.out.blk HG.out (.inr (by decide))).rd i
      rw [List.getElem?_toArray, List.getElem?_map, List.getElem?_eq_getElem hix, ← hx] at hb
      simp only [Option.map_some] at hb
      obtain ⟨X, hX⟩ : ∃ X, X = x % 18446744073709551616 := ⟨_, rfl⟩
      have eX : IntKind.u64.wrap x = X := by rw [IntKind.wrap_u64, hX]
      have HBE := Lib.hid (show be 8 x = be 8 X from by rw [hX, be_wrap])
      have HXB := Lib.hid (show 0 ≤ X ∧ X < 18446744073709551616 from by omega)
      have hXb := HXB.out
      obtain ⟨bt, hbt⟩ : ∃ bt, bt = bs ++ flat8 (xs.take i) := ⟨_, rfl⟩
      rw [← hbt] at HO1
      have HBT := Lib.hid (show bt.length ≤ 1000080 from by rw [hbt, List.length_append, flat8_length, List.length_take]; omega)
      have HBN := Lib.hid (show bs ++ flat8 (xs.take (i + 1)) = bt ++ be 8 X from by rw [HFL.out, hbt, List.append_assoc, HBE.out])
      obtain ⟨wo, hwo⟩ : ∃ wo : World, wo = wr := ⟨_, rfl⟩
      rw [← hwo] at HO1 HF hb ⊢
      clear hx hX hbt hwo
      go_upto_region 5 with (fail)
      clear hb
      go_loopg [0, 7] 9 (fun k s0 s7 wq => ∃ j : Nat, j ≤ 8 ∧ k = 9 - j ∧ s7 = .int .i64 (56 - 8 * (j : Int)) ∧ Own wq B s0 (bt ++ (be 8 X).take j) ∧ FrU B w wq)
      case atStart => exact ⟨0, by omega, by omega, by simp, by simpa using HO1.out, HF.out⟩
      case round =>
        obtain ⟨j, hj, hkk, rfl, hown, hf⟩ := hrel
        have HK2 := Lib.hid hkk
        have HO2 := Lib.hid hown
        have HF2 := Lib.hid hf
        clear hkk hown hf
        by_cases hj8 : j < 8
        · obtain ⟨sh, hsh⟩ : ∃ sh : Nat, 56 - 8 * (j : Int) = (sh : Int) := ⟨56 - 8 * j, by omega⟩
          obtain ⟨P, hP⟩ : ∃ P, P = (2 : Int) ^ sh := ⟨_, rfl⟩
          have e1 : (2 : Int) ^ sh = P := hP.symm
          have hP2 : P = 256 ^ (7 - j) := by rw [hP, show sh = 8 * (7 - j) by omega, Int.pow_mul]; rfl
          obtain ⟨y, hy⟩ : ∃ y, y = X / P := ⟨_, rfl⟩
          have e2 : X / P = y := hy.symm
          have hy0 : 0 ≤ y ∧ y < 18446744073709551616 := by
            have hp : 0 < P := by rw [hP2]; exact Int.pow_pos (by decide)
            have hx := HXB.out
            rw [hy]
            exact ⟨Int.ediv_nonneg hx.1 (by omega), Int.lt_of_le_of_lt (Int.ediv_le_self _ hx.1) hx.2⟩
          obtain ⟨z, hz⟩ : ∃ z, z = y % 256 := ⟨_, rfl⟩
          have e3 : IntKind.u8.wrap y = z := by rw [IntKind.wrap_u8, hz]
          have HT := Lib.hid (show (be 8 X).take (j + 1) = (be 8 X).take j ++ [z] from by rw [be8_take X j hj8, hz, hy, hP2])
          have HZ := Lib.hid (show ∀ u ∈ [z], (Lit.int .u8 u).wf = true from by intro u hu; rw [List.mem_singleton] at hu; rw [hu]; exact u8_wf (by omega))
          have HSH := Lib.hid hsh
          have hsb : (sh : Int) ≤ 56 := by omega
          have hsb2 : sh < 64 := by omega
          rw [hsh]
          have HR := Lib.hid (show RdI (wr.alloc (.cells #[.int .u8 z] 5)) .u8 (some ⟨wr.heap.size, 0, none⟩) 1 1 [z] from rd_blk (heap_alloc_new wr _) rfl (by unfold maxLen; omega) HZ.out)
          clear hP hP2 hy hz hsh
          go_wp2_with (at_builtin; refine wpList_appI (by rfl) _ _ 1 (by rfl) (by rfl) (by rfl) (HO2.out.below ((Below.refl _ _).alloc (Nat.le_refl _) _)) HR.out (by have := HBT.out; rw [List.length_append, List.length_take]; omega) (by have := HBS.out; have := HF2.out.size; simp; omega) ?_; intro v5 w5 o5 g5; have O5 := Lib.hid o5; have F5 := Lib.hid (HF2.out.trans ((FrU.alloc (by have := HBS.out; have := HF2.out.size; omega) _).trans (FrU.row (HO2.out.below ((Below.refl _ _).alloc (Nat.le_refl _) _)) g5))); clear o5 g5)
          go_roundg (9 - (j + 1))
          case measure => have := HK2.out; omega
          case rel =>
            have h := HSH.out
            exact ⟨j + 1, by omega, by omega, by congr 1; omega, by rw [HT.out, ← List.append_assoc]; exact O5.out, F5.out⟩
        · have hje : j = 8 := by omega
          subst hje
          have O8 := Lib.hid (show Own wr B u0 (bt ++ be 8 X) from by
            have h := HO2.out
            rwa [List.take_of_length_le (by rw [be_length]; exact Nat.le_refl _)] at h)
          go_wp2
          go_roundg (n - (i + 1))
          case measure => have := HK.out; omega
          case rel => exact ⟨i + 1, by omega, by omega, by go_num, by rw [HBN.out]; exact O8.out, HF2.out⟩
    · have hie : i = n := by omega
      subst hie
      have hown := HO1.out
      rw [List.take_of_length_le (by rw [HL.out]; exact Nat.le_refl _)] at hown
      have HO3 := Lib.hid hown
      clear hown
      go_wp2
      go_ret
      exact ⟨_, rfl, HO3.out, HF.out⟩
end Go.Proofs.Ytfpknklnbgmflaa
