/- The laws of layer 8 (summary): what they share. -/
import Derived.Test.YtnpiimaapholiaaSmN
namespace Go.Proofs.Ytnpiimaapholiaa
set_option linter.unusedSimpArgs false
set_option linter.unusedVariables false
open Go.ChangeShapes Go.WideShapes Go.ChangeAt Go.RowKit
set_option maxHeartbeats 1000000 in
theorem smrow_any (a b c : Nat) (ha : a < 18446744073709551616) (hb : b < 18446744073709551616) (hc : c < 18446744073709551616) (w : World) :
    Calls Try.prog 14 #[.agg #[.int .u64 (a : Int), .int .u64 (b : Int), .int .u64 (c : Int)]] w fun e w' => e = .returned (.agg #[.int .u64 (dX a b c : Nat), .int .u64 (dA a b c : Nat), .int .u64 (dB a b c : Nat)]) ∧ Below w.heap.size w w' := by
  have HD := Lib.hid (d_row a b c)
  have CR := Lib.hid (fun wx (h : RdI wx .u64 (some ⟨w.heap.size, 0, none⟩) 3 3 [(a : Int), (b : Int), (c : Int)]) => show Calls Try.prog 27 #[.slice (some ⟨w.heap.size, 0, none⟩) 3 3, .int .i64 1] wx _ from rows_any wx _ 3 3 _ h 1 (by omega))
  have HW := Lib.hid (show ∀ z ∈ [(a : Int), (b : Int), (c : Int)], (Lit.int .u64 z).wf = true from by
    intro z hz
    simp only [List.mem_cons, List.not_mem_nil, or_false] at hz
    rcases hz with rfl | rfl | rfl <;> (simp [Lit.wf, IntKind.min, IntKind.max, IntKind.signed, IntKind.bits]; omega))
  clear ha hb hc
  go_enter Try.func14, Try.ntmps14
  go_wp2_with (fail)
  obtain ⟨w1, hw1, k1, l1, s1⟩ := box_new w #[.int .u64 (a : Int), .int .u64 (b : Int), .int .u64 (c : Int)] 23
  obtain ⟨w2, hw2, k2, l2, s2⟩ := box_new w1 #[.int .u64 0, .int .u64 0, .int .u64 0] 30
  rw [hw1, hw2]
  have hrd : RdI w2 .u64 (some ⟨w.heap.size, 0, none⟩) 3 3 [(a : Int), (b : Int), (c : Int)] :=
    rd_blk (k := .u64) (zs := [(a : Int), (b : Int), (c : Int)]) (k1.keep l2) rfl (by unfold maxLen; omega) HW.out
  refine (CR.out w2 hrd).mono ?_
  rintro e w3 ⟨rfl, hr, b3⟩
  obtain ⟨C, hC, hsz, hcell⟩ := hr.blk
  have hc0 := hcell 0 (by omega)
  rw [HD.out.1, HD.out.2.1, HD.out.2.2] at hc0
  obtain ⟨X, hX⟩ : ∃ X, X = dX a b c := ⟨_, rfl⟩
  obtain ⟨A, hA⟩ : ∃ A, A = dA a b c := ⟨_, rfl⟩
  obtain ⟨B, hB⟩ : ∃ B, B = dB a b c := ⟨_, rfl⟩
  rw [← hX, ← hA, ← hB] at hc0
  have HE := Lib.hid (And.intro hX (And.intro hA hB))
  have c0 : w3.cell? ⟨w2.heap.size, 0, none⟩ = some (.int .u64 (X : Int)) := by rw [blk_cell hC]; exact hc0.1
  have c1 : w3.cell? ⟨w2.heap.size, 1, none⟩ = some (.int .u64 (A : Int)) := by rw [blk_cell hC]; exact hc0.2.1
  have c2 : w3.cell? ⟨w2.heap.size, 2, none⟩ = some (.int .u64 (B : Int)) := by rw [blk_cell hC]; exact hc0.2.2
  rw [s1] at k2
  have k3 := k2.keep b3
  have K3 := Lib.hid k3
  have kr := k3.rd
  have kw := k3.wr
  have L3 := Lib.hid (below_in (below_in l1 l2) b3)
  have S1 := Lib.hid s1
  generalize w2.heap.size = sb at c0 c1 c2 ⊢
  clear hC hsz hcell hc0 hr hrd k1 k2 k3 l1 l2 s1 s2 hw1 hw2 b3 hX hA hB
  go_wp2
  have hlt := lt_of_block K3.out
  rw [setCell_obj K3.out, setCell_in hlt, setCell_in hlt]
  refine bodyPost_ret (results_cell_row rfl _ _ (w.heap.size + 1) _ _ (0, 0) _ rfl (setObj_at hlt _) Try.underlying30 rfl (by kernel_rfl)) rfl ?_
  have he := HE.out
  refine ⟨?_, L3.out.trans ((Fr.setObj (F := fun k => k = w.heap.size + 1) (Fr.refl _ _) rfl _).below L3.out.size (fun k hk => by omega))⟩
  rw [← he.1, ← he.2.1, ← he.2.2]
  rfl
section
variable {w W : World} {Q : SmN} {M : List Tri} {tot : Int}
theorem smlenM (w : World) (h : SmM w Q M tot) : Calls Try.prog 18 #[.pointer (some ⟨Q.s, 0, none⟩)] w fun e w' => e = .returned (.int .i64 (M.length : Int)) ∧ w = w' := by
  obtain ⟨L, σ, h1, rfl⟩ := h
  rw [List.length_map]
  exact smlen_any w h1
theorem smtotalM (w : World) (h : SmM w Q M tot) : Calls Try.prog 19 #[.pointer (some ⟨Q.s, 0, none⟩)] w fun e w' => e = .returned (.int .i64 tot) ∧ w = w' := by
  obtain ⟨L, σ, h1, rfl⟩ := h
  exact smtotal_any w h1
theorem smcountM_yes (j : Nat) (t : Tri) (hs : t.1.size ≤ maxLen) (w : World) (h : SmM w Q M tot) (hj : M[j]? = some t) : Calls Try.prog 21 #[.pointer (some ⟨Q.s, 0, none⟩), .string t.1] w fun e w' => e = .returned (.tuple #[.int .i64 t.2.1, .int .i64 t.2.2, .bool true]) ∧ Below w.heap.size w w' := by
  obtain ⟨L, σ, h1, rfl⟩ := h
  rw [List.getElem?_map] at hj
  cases hx : L[j]? with
  | none => rw [hx] at hj; cases hj
  | some x =>
    rw [hx] at hj
    have : x.c = t := Option.some.inj hj
    subst this
    exact smcount_yes j x hs w h1 hx
theorem smcountM_no (s : ByteArray) (hs : s.size ≤ maxLen) (w : World) (h : SmM w Q M tot) (hk : ∀ t ∈ M, t.1 ≠ s) : Calls Try.prog 21 #[.pointer (some ⟨Q.s, 0, none⟩), .string s] w fun e w' => e = .returned (.tuple #[.int .i64 0, .int .i64 0, .bool false]) ∧ Below w.heap.size w w' := by
  obtain ⟨L, σ, h1, rfl⟩ := h
  exact smcount_no s hs w h1 (fun x hx => hk x.c (List.mem_map.2 ⟨x, hx, rfl⟩))
/-- a summary whose blocks are new ones. -/
structure SmB (W w : World) (Q : SmN) (M : List Tri) (tot : Int) : Prop where
  at_ : SmM w Q M tot
  bl : Below W.heap.size W w
  new : ∀ k, Q.all k → W.heap.size ≤ k
theorem SmB.keep {w' : World} (h : SmB W w Q M tot) (hb : Below w.heap.size w w') : SmB W w' Q M tot := ⟨h.at_.keep hb, G.below_on h.bl hb, h.new⟩
theorem SmB.step {w' : World} {M' : List Tri} {tot' : Int} (h : SmB W w Q M tot) (h' : SmM w' Q M' tot') (hf : Fr Q.F w w') : SmB W w' Q M' tot' :=
  ⟨h', h.bl.trans (hf.below h.bl.size (fun k hk => h.new k (Or.inl hk))), h.new⟩
theorem smnewM (X A B : Nat) (hX : X < 2305843009213693951) (hA : A < 2305843009213693951) (hB : B < 2305843009213693951) (n : Nat) (h1 : 1 ≤ n) (hn : n ≤ 64) (hb : Below W.heap.size W w) :
    Calls Try.prog 13 #[.int .i64 (n : Int), .agg #[.int .u64 X, .int .u64 A, .int .u64 B]] w fun e w' => ∃ Q : SmN, e = .returned (.pointer (some ⟨Q.s, 0, none⟩)) ∧ SmB W w' Q [] 0 ∧ Q.N.n = n :=
  (smnew_any X A B hX hA hB n h1 hn w).mono (fun e w' ⟨Q, h2, h3, h4, h5, h6⟩ => ⟨Q, h2, ⟨⟨[], _, h3, rfl⟩, G.below_on hb h6, fun k hk => Nat.le_trans hb.size (h5 k hk)⟩, h4⟩)
theorem fit_off1 : offerM 1 [] 0 ⟨#[97]⟩ 3 = ([(⟨#[97]⟩, 3, 0)], 3) := by decide
theorem fit_off2 : offerM 1 [(⟨#[97]⟩, 3, 0)] 3 ⟨#[98]⟩ 1 = ([(⟨#[98]⟩, 4, 3)], 4) := by decide
theorem smfit_any (w : World) : Calls Try.prog 11 #[] w fun e w' => e = .returned (.bool true) ∧ Below w.heap.size w w' := by
  have CN := Lib.hid (show Calls Try.prog 13 #[.int .i64 1, .agg #[.int .u64 1, .int .u64 1, .int .u64 0]] w _ from smnewM (W := w) 1 1 0 (by omega) (by omega) (by omega) 1 (by omega) (by omega) (Below.refl _ _))
  go_enter Try.func11, Try.ntmps11
  go_upto_region 2 with (go_at_call 13; ((with_reducible refine CN.out.mono ?_); rintro e w1 ⟨Q, rfl, h1, hn⟩; have H1 := Lib.hid h1; have HN := Lib.hid hn; clear h1 hn))
  have c1 := smoffer_any ⟨#[97]⟩ (by decide) 3 w1 H1.out.at_
  rw [HN.out, fit_off1] at c1
  have C1 := Lib.hid c1
  clear c1
  go_upto_region 3 with (go_at_call 15; ((with_reducible refine C1.out.mono ?_); rintro e w2 ⟨rfl, h2, f2⟩; have H2 := Lib.hid (H1.out.step h2 f2); clear h2 f2))
  have c2 := smoffer_any ⟨#[98]⟩ (by decide) 1 w2 H2.out.at_
  rw [HN.out, fit_off2] at c2
  have C2 := Lib.hid c2
  clear c2
  go_upto_region 4 with (go_at_call 15; ((with_reducible refine C2.out.mono ?_); rintro e w3 ⟨rfl, h3, f3⟩; have H3 := Lib.hid (H2.out.step h3 f3); clear h3 f3))
  have C3 := Lib.hid (smcountM_yes 0 (⟨#[98]⟩, 4, 3) (by decide) w3 H3.out.at_ rfl)
  have C4 := Lib.hid (fun wx (h : SmB w wx Q [(⟨#[98]⟩, 4, 3)] 4) => smtotalM wx h.at_)
  go_wp2_with (first
    | (go_at_call 21; ((with_reducible refine C3.out.mono ?_); rintro e w4 ⟨rfl, b4⟩; have H4 := Lib.hid (H3.out.keep b4); clear b4))
    | (go_at_call 19; ((with_reducible refine (C4.out _ H4.out).mono ?_); rintro e w5 ⟨rfl, rfl⟩)))
  go_ret
  exact ⟨rfl, H4.out.bl⟩
end
end Go.Proofs.Ytnpiimaapholiaa
