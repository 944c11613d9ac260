/- The law's own functions of layer 21 (report): digits, hex. -/
import Derived.Test.YtghhoofdbmgacaaDoorRpG
import Derived.BigQuiet
namespace Go.Proofs.YtghhoofdbmgacaaDoor
set_option linter.unusedSimpArgs false
set_option linter.unusedVariables false
open Go.ChangeShapes Go.WideShapes Go.ChangeAt Go.RowKit Go.Deep
set_option maxHeartbeats 4000000 in
theorem digits_one (x : Int) (h0 : 0 ≤ x) (h1 : x < 10) (w : World) :
    Calls Tryd.prog 9 #[.int .i64 x] w fun e w' => e = .returned (.string (strOfNums (decZ x))) ∧ Below w.heap.size w w' := by
  obtain ⟨y, hy⟩ : ∃ y, y = 48 + x := ⟨_, rfl⟩
  have HD := Lib.hid (show decZ x = [y] from by rw [decZ_one ⟨h0, h1⟩, hy])
  have e1 : 48 + x = y := hy.symm
  have ew : IntKind.u8.wrap y = y := by rw [IntKind.wrap_u8]; omega
  have ew2 : wrap64 y = y := by unfold wrap64; omega
  have hcv := conv_str (P := Tryd.prog) (src := 39) (dst := 9) (by rfl) (by rfl) (by rfl) (rd_blk (n := 1) (zs := [y]) (heap_alloc_new w (.cells #[.int .u8 y] 5)) rfl (by unfold maxLen; omega) (fun z hz => u8_wf (by have e : z = y := (by simpa using hz); omega)))
  have hyb : 48 ≤ y ∧ y ≤ 57 := by omega
  have t1 : ¬ (x < 0) := by omega
  clear hy
  go_enter Tryd.func9, Tryd.ntmps9
  go_wp2
  go_ret
  exact ⟨by rw [HD.out]; rfl, (Below.refl _ _).alloc (Nat.le_refl _) _⟩
set_option maxHeartbeats 4000000 in
theorem digits_pos (f : Nat) : ∀ (x : Int), 0 ≤ x → x ≤ 9223372036854775807 → x.toNat ≤ f → ∀ (w : World),
    Calls Tryd.prog 9 #[.int .i64 x] w fun e w' => e = .returned (.string (strOfNums (decZ x))) ∧ Below w.heap.size w w' := by
  induction f with
  | zero => intro x h0 h1 hf w; exact digits_one x h0 (by omega) w
  | succ f ih =>
    intro x h0 h1 hf w
    by_cases h10 : x < 10
    · exact digits_one x h0 h10 w
    obtain ⟨q, hq⟩ : ∃ q, q = x / 10 := ⟨_, rfl⟩
    obtain ⟨r, hr⟩ : ∃ r, r = x % 10 := ⟨_, rfl⟩
    have e1 : x.tdiv 10 = q := by rw [hq, Int.tdiv_eq_ediv_of_nonneg h0]
    have e2 : x.tmod 10 = r := by rw [hr, Int.tmod_eq_emod_of_nonneg h0]
    have e3 : x / 10 = q := hq.symm
    have e4 : x % 10 = r := hr.symm
    have ew : wrap64 q = q := by unfold wrap64; omega
    have ew2 : wrap64 r = r := by unfold wrap64; omega
    have g1 := dec_len q (by unfold i64P; omega)
    have g2 := dec_len r (by unfold i64P; omega)
    have CQ0 := ih q (by omega) (by omega) (by omega)
    have CR0 := digits_one r (by omega) (by omega)
    obtain ⟨s1, hs1⟩ : ∃ s, s = strOfNums (decZ q) := ⟨_, rfl⟩
    obtain ⟨s2, hs2⟩ : ∃ s, s = strOfNums (decZ r) := ⟨_, rfl⟩
    have HS := Lib.hid (show s1 ++ s2 = strOfNums (decZ x) from by rw [hs1, hs2, str_append, hq, hr, ← decZ_more (by omega)])
    have z1 : s1.size ≤ 20 := by rw [hs1, str_size]; exact g1
    have z2 : s2.size ≤ 20 := by rw [hs2, str_size]; exact g2
    rw [← hs1] at CQ0
    rw [← hs2] at CR0
    have CQ := Lib.hid CQ0
    have CR := Lib.hid CR0
    have t1 : ¬ (x < 0) := by omega
    clear ih hf hq hr hs1 hs2 CQ0 CR0 g1 g2
    go_enter Tryd.func9, Tryd.ntmps9
    go_wp2_with (first
      | (go_at_call 9; ((with_reducible refine (CQ.out w).mono ?_); rintro e w1 ⟨rfl, b1⟩; have B1 := Lib.hid b1; clear b1))
      | (go_at_call 9; ((with_reducible refine (CR.out w1).mono ?_); rintro e w2 ⟨rfl, b2⟩; have B2 := Lib.hid (B1.out.trans (b2.mono B1.out.size)); clear b2)))
    go_ret
    exact ⟨by rw [HS.out]; rfl, B2.out⟩
set_option maxHeartbeats 4000000 in
theorem digits_any (x : Int) (hx : i64P x) (w : World) :
    Calls Tryd.prog 9 #[.int .i64 x] w fun e w' => e = .returned (.string (strOfNums (decZ x))) ∧ Below w.heap.size w w' := by
  have hx1 := hx.1
  have hx2 := hx.2
  by_cases h0 : 0 ≤ x
  · exact digits_pos x.toNat x h0 hx.2 (Nat.le_refl _) w
  have t1 : x < 0 := by omega
  by_cases hm : x = -9223372036854775808
  · subst hm
    have e : (⟨#[45, 57, 50, 50, 51, 51, 55, 50, 48, 51, 54, 56, 53, 52, 55, 55, 53, 56, 48, 56]⟩ : ByteArray) = strOfNums (decZ (-9223372036854775808)) := by
      rw [decZ_min]; apply ByteArray.ext; rfl
    have E := Lib.hid e
    clear e hx hx1 hx2 h0 t1
    go_enter Tryd.func9, Tryd.ntmps9
    go_wp2
    go_ret
    exact ⟨congrArg (fun z => Ending.returned (.string z)) E.out, Below.refl _ _⟩
  · have tm : (x == -9223372036854775808) = false := by simpa using hm
    obtain ⟨q, hq⟩ : ∃ q, q = -x := ⟨_, rfl⟩
    have e1 : -x = q := hq.symm
    have e2 : 0 - x = q := by omega
    have ew : wrap64 q = q := by unfold wrap64; omega
    have CQ0 := digits_pos q.toNat q (by omega) (by omega) (Nat.le_refl _)
    have g1 := dec_len q (by unfold i64P; omega)
    obtain ⟨s1, hs1⟩ : ∃ s, s = strOfNums (decZ q) := ⟨_, rfl⟩
    have HS := Lib.hid (show (⟨#[45]⟩ : ByteArray) ++ s1 = strOfNums (decZ x) from by
      rw [hs1, show (⟨#[45]⟩ : ByteArray) = strOfNums [45] from by apply ByteArray.ext; rfl, str_append, decZ_neg t1, hq]; rfl)
    have z1 : s1.size ≤ 20 := by rw [hs1, str_size]; exact g1
    rw [← hs1] at CQ0
    have CQ := Lib.hid CQ0
    have hqb : 0 < q ∧ q ≤ 9223372036854775807 := by omega
    clear hq hs1 CQ0 g1 hx h0 hm
    go_enter Tryd.func9, Tryd.ntmps9
    go_wp2_with (go_at_call 9; ((with_reducible refine (CQ.out w).mono ?_); rintro e w1 ⟨rfl, b1⟩; have B1 := Lib.hid b1; clear b1))
    go_ret
    exact ⟨congrArg (fun z => Ending.returned (.string z)) HS.out, B1.out⟩
end Go.Proofs.YtghhoofdbmgacaaDoor
