/- The example of layer 5 (index), and what its laws begin with. -/
import Derived.Test.YtebcgiblgkiceaaIxQ
namespace Go.Proofs.Ytebcgiblgkiceaa
set_option linter.unusedSimpArgs false
set_option linter.unusedVariables false
open Go.ChangeShapes Go.WideShapes Go.ChangeAt Go.RowKit
/-- three draws' function. -/
def dX (a _b _c : Nat) : Nat := a % 2305843009213693950 + 1
def dA (_a b _c : Nat) : Nat := b % 2305843009213693950 + 1
def dB (_a _b c : Nat) : Nat := c % 2305843009213693951
theorem d_lt (a b c : Nat) : dX a b c < 2305843009213693951 ∧ dA a b c < 2305843009213693951 ∧ dB a b c < 2305843009213693951 := by
  unfold dX dA dB
  have h1 := Nat.mod_lt a (show 0 < 2305843009213693950 by omega)
  have h2 := Nat.mod_lt b (show 0 < 2305843009213693950 by omega)
  have h3 := Nat.mod_lt c (show 0 < 2305843009213693951 by omega)
  omega
theorem d_row (a b c : Nat) : rX [(a : Int), (b : Int), (c : Int)] 0 = dX a b c ∧ rA [(a : Int), (b : Int), (c : Int)] 0 = dA a b c ∧ rB [(a : Int), (b : Int), (c : Int)] 0 = dB a b c := ⟨rfl, rfl, rfl⟩
set_option maxHeartbeats 1000000 in
theorem row_any (a b c : Nat) (ha : a < 18446744073709551616) (hb : b < 18446744073709551616) (hc : c < 18446744073709551616) (w : World) :
    Calls Try.prog 10 #[.agg #[.int .u64 (a : Int), .int .u64 (b : Int), .int .u64 (c : Int)]] w fun e w' => e = .returned (.agg #[.int .u64 (dX a b c : Nat), .int .u64 (dA a b c : Nat), .int .u64 (dB a b c : Nat)]) ∧ Below w.heap.size w w' := by
  have HD := Lib.hid (d_row a b c)
  have CR := Lib.hid (fun wx (h : RdI wx .u64 (some ⟨w.heap.size, 0, none⟩) 3 3 [(a : Int), (b : Int), (c : Int)]) => show Calls Try.prog 20 #[.slice (some ⟨w.heap.size, 0, none⟩) 3 3, .int .i64 1] wx _ from rows_any wx _ 3 3 _ h 1 (by omega))
  have HW := Lib.hid (show ∀ z ∈ [(a : Int), (b : Int), (c : Int)], (Lit.int .u64 z).wf = true from by
    intro z hz
    simp only [List.mem_cons, List.not_mem_nil, or_false] at hz
    rcases hz with rfl | rfl | rfl <;> (simp [Lit.wf, IntKind.min, IntKind.max, IntKind.signed, IntKind.bits]; omega))
  clear ha hb hc
  go_enter Try.func10, Try.ntmps10
  go_wp2_with (fail)
  obtain ⟨w1, hw1, k1, l1, s1⟩ := box_new w #[.int .u64 (a : Int), .int .u64 (b : Int), .int .u64 (c : Int)] 23
  obtain ⟨w2, hw2, k2, l2, s2⟩ := box_new w1 #[.int .u64 0, .int .u64 0, .int .u64 0] 31
  rw [hw1, hw2]
  have hrd : RdI w2 .u64 (some ⟨w.heap.size, 0, none⟩) 3 3 [(a : Int), (b : Int), (c : Int)] :=
    rd_blk (k := .u64) (zs := [(a : Int), (b : Int), (c : Int)]) (k1.keep l2) rfl (by unfold maxLen; omega) HW.out
  refine (CR.out w2 hrd).mono ?_
  rintro e w3 ⟨rfl, hr, b3⟩
  obtain ⟨C, hC, hsz, hcell⟩ := hr.blk
  have hc0 := hcell 0 (by omega)
  rw [HD.out.1, HD.out.2.1, HD.out.2.2] at hc0
  obtain ⟨X, hX⟩ : ∃ X, X = dX a b c := ⟨_, rfl⟩
  obtain ⟨A, hA⟩ : ∃ A, A = dA a b c := ⟨_, rfl⟩
  obtain ⟨B, hB⟩ : ∃ B, B = dB a b c := ⟨_, rfl⟩
  rw [← hX, ← hA, ← hB] at hc0
  have HE := Lib.hid (And.intro hX (And.intro hA hB))
  have c0 : w3.cell? ⟨w2.heap.size, 0, none⟩ = some (.int .u64 (X : Int)) := by rw [blk_cell hC]; exact hc0.1
  have c1 : w3.cell? ⟨w2.heap.size, 1, none⟩ = some (.int .u64 (A : Int)) := by rw [blk_cell hC]; exact hc0.2.1
  have c2 : w3.cell? ⟨w2.heap.size, 2, none⟩ = some (.int .u64 (B : Int)) := by rw [blk_cell hC]; exact hc0.2.2
  rw [s1] at k2
  have k3 := k2.keep b3
  have K3 := Lib.hid k3
  have kr := k3.rd
  have kw := k3.wr
  have L3 := Lib.hid (below_in (below_in l1 l2) b3)
  have S1 := Lib.hid s1
  generalize w2.heap.size = sb at c0 c1 c2 ⊢
  clear hC hsz hcell hc0 hr hrd k1 k2 k3 l1 l2 s1 s2 hw1 hw2 b3 hX hA hB
  go_wp2
  have hlt := lt_of_block K3.out
  rw [setCell_obj K3.out, setCell_in hlt, setCell_in hlt]
  refine bodyPost_ret (results_cell_row rfl _ _ (w.heap.size + 1) _ _ (0, 0) _ rfl (setObj_at hlt _) Try.underlying31 rfl (by kernel_rfl)) rfl ?_
  have he := HE.out
  refine ⟨?_, L3.out.trans ((Fr.setObj (F := fun k => k = w.heap.size + 1) (Fr.refl _ _) rfl _).below L3.out.size (fun k hk => by omega))⟩
  rw [← he.1, ← he.2.1, ← he.2.2]
  rfl
theorem kNew_none (n i : Nat) (s : ByteArray) : (kNew n).K i ≠ some s := fun e => by cases e
set_option maxHeartbeats 1000000 in
theorem ixfit_any (w : World) : Calls Try.prog 7 #[] w fun e w' => e = .returned (.bool true) ∧ Below w.heap.size w w' := by
  go_enter Try.func7, Try.ntmps7
  go_wp2_with (fail)
  refine (show Calls Try.prog 8 #[.int .i64 3] w _ from new_yes 3 (by omega) w).mono ?_
  rintro e w1 ⟨b, gb, gs, gf, rfl, h1, b1, hb⟩
  go_wp2_with (fail)
  refine (show Calls Try.prog 9 #[.pointer (some ⟨b, 0, none⟩), .agg #[.int .u64 1, .int .u64 1, .int .u64 0]] w1 _ from ixnew_st 1 1 0 (by omega) (by omega) (by omega) b gb gs gf 3 w1 h1).mono ?_
  rintro e w2 ⟨x, g, rfl, h2, b2, hx, hg⟩
  obtain ⟨N, hN⟩ : ∃ N : IxN, N = ⟨x, b, 1, 1, 0, g, gb, gs, gf, 3⟩ := ⟨_, rfl⟩
  have hNx : x = N.x := by rw [hN]
  rw [← hN] at h2
  have hn : N.n = 3 := by rw [hN]
  have H2 := Lib.hid h2
  have HN := Lib.hid hn
  have B2 := Lib.hid (below_in b1 b2)
  have HF := Lib.hid (show ∀ k, N.F k → w.heap.size ≤ k from by
    rw [hN]
    have hl := b1.size
    rintro k (hk | hk | hk | hk | hk)
    · have hk : k = g := hk
      omega
    · have hk : k = b := hk
      omega
    · have hk : k = gb := hk
      omega
    · have hk : k = gs := hk
      omega
    · have hk : k = gf := hk
      omega)
  subst hNx
  clear h1 b1 hb h2 b2 hx hg hN hn
  go_wp2_with (fail)
  refine (ixput_yes 0 ⟨#[97]⟩ w2 (fl := [2, 1]) H2.out (kNew_none 3 · _) (by decide)).mono ?_
  rintro e w3 ⟨rfl, h3, f3⟩
  have H3 := Lib.hid h3
  have B3 := Lib.hid (B2.out.trans (f3.below B2.out.size HF.out))
  clear h3 f3 H2 B2
  go_wp2_with (fail)
  refine (ixput_yes 1 ⟨#[98]⟩ w3 (fl := [2]) H3.out (fun i => ?_) (by decide)).mono ?_
  · show (if i = 0 then some (⟨#[97]⟩ : ByteArray) else none) ≠ some ⟨#[98]⟩
    split
    · simp
    · simp
  rintro e w4 ⟨rfl, h4, f4⟩
  have H4 := Lib.hid h4
  have B4 := Lib.hid (B3.out.trans (f4.below B3.out.size HF.out))
  clear h4 f4 H3 B3
  go_wp2_with (fail)
  refine (ixremove_yes 0 ⟨#[97]⟩ (by decide) w4 H4.out rfl).mono ?_
  rintro e w5 ⟨rfl, h5, f5⟩
  have H5 := Lib.hid h5
  have B5 := Lib.hid (B4.out.trans (f5.below B4.out.size HF.out))
  clear h5 f5 H4 B4
  go_wp2_with (fail)
  refine (ixfind_yes 1 ⟨#[98]⟩ (by decide) w5 H5.out rfl).mono ?_
  rintro e w6 ⟨rfl, b6⟩
  have H6 := Lib.hid (H5.out.keep b6)
  have B6 := Lib.hid (below_in B5.out b6)
  clear b6 H5 B5
  go_wp2_with (fail)
  refine (ixfind_no ⟨#[97]⟩ (by decide) w6 H6.out (fun i => ?_)).mono ?_
  · show (if i = 0 then none else if i = 1 then some (⟨#[98]⟩ : ByteArray) else if i = 0 then some ⟨#[97]⟩ else none) ≠ some ⟨#[97]⟩
    split
    · simp
    · split
      · simp
      · simp
  rintro e w7 ⟨rfl, b7⟩
  have B7 := Lib.hid (below_in B6.out b7)
  clear b7 H6 B6
  go_wp2_with (go_at_call 18; refine (show Calls Try.prog 18 #[.int .i64 3] w7 _ from ixsize_any 3 (by omega) w7).mono ?_; rintro e w8 ⟨rfl, rfl⟩)
  go_ret
  exact ⟨rfl, B7.out⟩
end Go.Proofs.Ytebcgiblgkiceaa
