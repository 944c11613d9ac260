/- The example of layer 10 (pool), and what its laws begin with. -/
import Derived.Test.YtojbhmchpglmgaaPlI
namespace Go.Proofs.Ytojbhmchpglmgaa
set_option linter.unusedSimpArgs false
set_option linter.unusedVariables false
open Go.ChangeShapes Go.WideShapes Go.ChangeAt Go.RowKit
/-- the pool's own blocks are new ones. -/
structure PlB (w w' : World) (Q : PlN) (σ : KSt) (C : List Cel) : Prop where
  at_ : PlAt w' Q σ C
  bl : Below w.heap.size w w'
  new : ∀ k, Q.all k → w.heap.size ≤ k
theorem PlB.step {w X Y : World} {Q : PlN} {σ σ' : KSt} {C C' : List Cel} (h : PlB w X Q σ C) (h' : PlAt Y Q σ' C') (hf : Fr Q.F X Y) : PlB w Y Q σ' C' :=
  ⟨h', h.bl.trans (hf.below h.bl.size (fun k hk => h.new k (Or.inl hk))), h.new⟩
theorem PlB.keep {w X Y : World} {Q : PlN} {σ : KSt} {C : List Cel} (h : PlB w X Q σ C) (hb : Below X.heap.size X Y) : PlB w Y Q σ C := ⟨h.at_.keep hb, below_in h.bl hb, h.new⟩
theorem fit_put1 : (kNew 1).put 1 ⟨#[97]⟩ = (⟨[], fun j => if j = 0 then some ⟨#[97]⟩ else none⟩, some 0) := by
  have : posN 1 (kNew 1).K ⟨#[97]⟩ = none := posN_no (fun i _ => by simp [kNew])
  unfold KSt.put
  rw [this]
  rfl
theorem fit_put2 : (⟨[], fun j => if j = 0 then some ⟨#[97]⟩ else none⟩ : KSt).put 1 ⟨#[98]⟩ = (⟨[], fun j => if j = 0 then some ⟨#[97]⟩ else none⟩, none) := by
  have : posN 1 (fun j => if j = 0 then some (⟨#[97]⟩ : ByteArray) else none) ⟨#[98]⟩ = none := posN_no (fun i _ => by split <;> simp)
  unfold KSt.put
  simp only [this]
  rfl
set_option maxHeartbeats 4000000 in
theorem plfit_any (w : World) : Calls Try.prog 7 #[] w fun e w' => e = .returned (.bool true) ∧ Below w.heap.size w w' := by
  go_enter Try.func7, Try.ntmps7
  go_wp2_with (fail)
  refine (show Calls Try.prog 8 #[.int .i64 1, .agg #[.int .u64 1, .int .u64 1, .int .u64 0]] w _ from plnew_any 1 1 0 (by omega) (by omega) (by omega) 1 (by omega) (by omega) w).mono ?_
  rintro e w1 ⟨Q, rfl, h1, hn, hnew, b1⟩
  have H1 := Lib.hid (show PlB w w1 Q (kNew 1) (List.replicate 1 (0, 0, 0, 0)) from ⟨h1, b1, hnew⟩)
  have HN := Lib.hid hn
  clear h1 b1 hnew hn
  go_wp2_with (fail)
  refine (show Calls Try.prog 11 #[.int .i64 3, .int .i64 1] w1 _ from new_any 3 1 w1).mono ?_
  rintro e w2 ⟨rfl, b2⟩
  have H2 := Lib.hid (H1.out.keep b2)
  clear b2 H1
  go_wp2_with (fail)
  have c3 := plput_any ⟨#[97]⟩ (by decide) (3, 3, 1, 0) w2 H2.out.at_
  rw [HN.out, fit_put1] at c3
  refine (show Calls Try.prog 10 #[.pointer (some ⟨Q.p, 0, none⟩), .string ⟨#[97]⟩, celV (3, 3, 1, 0)] w2 _ from c3).mono ?_
  clear c3
  rintro e w3 ⟨rfl, h3, f3⟩
  have H3 := Lib.hid (H2.out.step h3 f3)
  clear h3 f3 H2
  have ep : plP Q (some 0) = .pointer (some ⟨Q.cb, 0, none⟩) := by show Value.pointer (some ⟨Q.cb, 0 * 4, none⟩) = _; rw [Nat.zero_mul]
  simp only [ep] at H3 ⊢
  go_wp2_with (fail)
  refine (show Calls Try.prog 11 #[.int .i64 4, .int .i64 1] w3 _ from new_any 4 1 w3).mono ?_
  rintro e w4 ⟨rfl, b4⟩
  have H4 := Lib.hid (H3.out.keep b4)
  clear b4 H3
  go_wp2_with (fail)
  have c3 := plput_any ⟨#[98]⟩ (by decide) (4, 4, 1, 0) w4 H4.out.at_
  rw [HN.out, fit_put2] at c3
  refine (show Calls Try.prog 10 #[.pointer (some ⟨Q.p, 0, none⟩), .string ⟨#[98]⟩, celV (4, 4, 1, 0)] w4 _ from c3).mono ?_
  clear c3
  rintro e w5 ⟨rfl, h5, f5⟩
  have H5 := Lib.hid (H4.out.step h5 f5)
  clear h5 f5 H4
  have kc := H5.out.at_.cell (i := 0) (c := (3, 3, 1, 0)) rfl
  have k1 : w5.cell? ⟨Q.cb, 1, none⟩ = some (.int .i64 3) := kc.2.1
  clear kc
  have ep2 : plP Q none = .pointer none := rfl
  simp only [ep2]
  have C6 := Lib.hid (show Calls Try.prog 15 #[.pointer (some ⟨Q.p, 0, none⟩)] w5 (fun e w' => e = .returned (.bool true) ∧ Below w5.heap.size w5 w') from by
    have := plfull_any w5 H5.out.at_
    rw [HN.out] at this
    exact this)
  have C7 := Lib.hid (fun w6 (hb : Below w5.heap.size w5 w6) => show Calls Try.prog 14 #[.pointer (some ⟨Q.p, 0, none⟩)] w6 (fun e w' => e = .returned (.int .i64 1) ∧ Below w6.heap.size w6 w') from by
    have := pllen_any w6 (H5.out.at_.keep hb)
    rw [HN.out] at this
    exact this)
  go_wp2_with (first
    | (go_at_call 15; ((with_reducible refine C6.out.mono ?_); rintro e w6 ⟨rfl, b6⟩; have B6 := Lib.hid b6; clear b6))
    | (go_at_call 14; ((with_reducible refine (C7.out _ B6.out).mono ?_); rintro e w7 ⟨rfl, b7⟩; have B7 := Lib.hid (below_in B6.out b7); clear b7)))
  go_ret
  exact ⟨rfl, below_in H5.out.bl B7.out⟩
end Go.Proofs.Ytojbhmchpglmgaa
