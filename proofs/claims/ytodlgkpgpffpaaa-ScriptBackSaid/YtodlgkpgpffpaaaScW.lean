/- The contracts of layer 19 (script) with contents: written. -/
import Derived.Test.YtodlgkpgpffpaaaScG
namespace Go.Proofs.Ytodlgkpgpffpaaa
open Go.ChangeShapes Go.WideShapes Go.ChangeAt Go.RowKit
theorem wr_snoc_step (x : Int) : ∀ (n j : Nat), j < n → (Go.Proofs.Ytodlgkpgpffpaaa.wr x n).take (j + 1) = (Go.Proofs.Ytodlgkpgpffpaaa.wr x n).take j ++ [x / 256 ^ (n - 1 - j) % 256]
  | n + 1, 0, _ => by simp [wr]
  | n + 1, j + 1, h => by
    have := wr_snoc_step x n j (by omega)
    rw [wr, List.take_succ_cons, List.take_succ_cons, this, show n + 1 - 1 - (j + 1) = n - 1 - j by omega]
    rfl
set_option maxHeartbeats 4000000 in
theorem written_any (base m : Nat) (v : Value) (bs : List Int) (x : Int) (n : Nat) (hx : 0 ≤ x ∧ x < 18446744073709551616) (hn : n ≤ 8) (hm : m ≤ 1000000) (w : World) (ho : w.ownsRow base 5 1 v m (bs.map (Value.int .u8))) (hbase : base ≤ w.heap.size) :
    Calls Try.prog 16 #[v, .int .u64 x, .int .i64 (n : Int)] w fun e w' => ∃ v', e = .returned v' ∧ w'.ownsRow base 5 1 v' (m + n) ((bs ++ Go.Proofs.Ytodlgkpgpffpaaa.wr x n).map (Value.int .u8)) ∧ Fr (fun k => base ≤ k) w w' := by
  have HO := Lib.hid ho
  have HBS := Lib.hid hbase
  clear ho hbase
  go_enter Try.func16, Try.ntmps16
  go_wp2
  go_loopg [0, 7] n (fun k vj sj wq => ∃ j : Nat, j ≤ n ∧ k = n - j ∧ sj = .int .i64 ((n : Int) - 1 - (j : Int)) ∧ wq.ownsRow base 5 1 vj (m + j) ((bs ++ (Go.Proofs.Ytodlgkpgpffpaaa.wr x n).take j).map (Value.int .u8)) ∧ Fr (fun k => base ≤ k) w wq)
  case atStart => exact ⟨0, by omega, by omega, by first | rfl | go_num, by simpa using HO.out, Fr.refl _ _⟩
  case round =>
    obtain ⟨j, hj, hkk, rfl, ho, hf⟩ := hrel
    have HK := Lib.hid hkk
    have HOJ := Lib.hid ho
    have HF := Lib.hid hf
    clear hkk ho hf
    by_cases hjn : j < n
    · obtain ⟨i, hi⟩ : ∃ i : Nat, (n : Int) - 1 - (j : Int) = (i : Int) := ⟨n - 1 - j, by omega⟩
      have hi7 : i ≤ 7 := by omega
      obtain ⟨P, hP⟩ : ∃ P, P = (2 : Int) ^ (8 * (i : Int)).toNat := ⟨_, rfl⟩
      have e1 : (2 : Int) ^ (8 * (i : Int)).toNat = P := hP.symm
      have hP2 : P = 256 ^ i := by rw [hP, show (8 * (i : Int)).toNat = 8 * i by omega, Int.pow_mul]; rfl
      obtain ⟨y, hy⟩ : ∃ y, y = x / P := ⟨_, rfl⟩
      have e2 : x / P = y := hy.symm
      have hy0 : 0 ≤ y ∧ y < 18446744073709551616 := by
        have hp : 0 < P := by rw [hP2]; exact Int.pow_pos (by decide)
        rw [hy]
        exact ⟨Int.ediv_nonneg hx.1 (by omega), Int.lt_of_le_of_lt (Int.ediv_le_self _ hx.1) hx.2⟩
      obtain ⟨z, hz⟩ : ∃ z, z = y % 256 := ⟨_, rfl⟩
      have e3 : IntKind.u8.wrap y = z := by rw [IntKind.wrap_u8, hz]
      have HS := Lib.hid (show bs ++ (Go.Proofs.Ytodlgkpgpffpaaa.wr x n).take (j + 1) = (bs ++ (Go.Proofs.Ytodlgkpgpffpaaa.wr x n).take j) ++ [z] from by
        rw [wr_snoc_step x n j hjn, List.append_assoc, hz, hy, hP2, show n - 1 - j = i by omega])
      obtain ⟨i0, hi0, hz0, hz1, hz2⟩ := info_parts info_u8
      have NW := Lib.hid (heap_alloc_new wr (.cells #[.int .u8 z] 5))
      have HI := Lib.hid hi
      rw [hi]
      clear hP hP2 hy hz hi
      go_wp2_with (at_builtin; refine wpList_append_lies _ (by rfl) _ _ 28 (by rfl) base 5 i0 (.int .u8 0) 1 1 Try.underlying28 hi0 hz0 hz1 hz2 (by rfl) (by omega) u0 (m + j) _ (by rfl) (HOJ.out.alloc _) ⟨wr.heap.size, 0, none⟩ 1 1 [.int .u8 z] (by rfl) (by rfl) (World.news_of_block NW.out) (by simp [Value.oneCell']) (by omega) (by unfold maxLen; omega) (by omega) (by have := HF.out.size; have := HBS.out; simp; omega) (wr.heap.size + 1) (by simp) ?_; intro gl cl w9 hown9 hgrow9 hat9 hlt9; have HO9 := Lib.hid hown9; have HG9 := Lib.hid hgrow9; clear hown9 hgrow9 hat9 hlt9)
      go_roundg (n - (j + 1))
      case measure => have := HK.out; omega
      case rel =>
        have hi := HI.out
        refine ⟨j + 1, by omega, by omega, ?_, ?_, ?_⟩
        · first | (congr 1; omega) | go_num
        · rw [HS.out, List.map_append]; exact HO9.out
        · have hg := HG9.out
          have hb := own_base HOJ.out
          exact (HF.out.alloc _).trans ((fr_row hg).mono (fun k hk => hb k hk))
    · have hje : j = n := by omega
      subst hje
      have t : (j : Int) - 1 - (j : Int) = -1 := by omega
      rw [t]
      go_wp2
      go_ret
      refine ⟨u0, rfl, ?_, HF.out⟩
      have := HOJ.out
      rwa [List.take_of_length_le (by rw [wr_length]; exact Nat.le_refl _)] at this
end Go.Proofs.Ytodlgkpgpffpaaa
