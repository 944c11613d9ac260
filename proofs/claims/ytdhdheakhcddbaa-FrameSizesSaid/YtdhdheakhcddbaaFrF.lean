/- The contracts of layer 13 (frame): the document's Encode. -/
import Derived.Test.YtdhdheakhcddbaaFrE
namespace Go.Proofs.Ytdhdheakhcddbaa
set_option linter.unusedSimpArgs false
set_option linter.unusedVariables false
open Go.ChangeShapes Go.WideShapes Go.ChangeAt Go.RowKit
set_option maxHeartbeats 4000000 in
theorem rencode_any (op rule cost k : Int) (s : ByteArray) (w : World) (h : rightP (mkR op rule cost s k) 256) (hc : 0 ≤ cost ∧ cost < 4294967296) :
    Calls Try.prog 17 #[reqV op rule cost s k] w fun e w' => ∃ v, e = .returned v ∧ Own w' w.heap.size v (encZ (mkR op rule cost s k)) ∧ Below w.heap.size w w' := by
  have H := Lib.hid h
  obtain ⟨hr, ho⟩ := right_op h
  have hsz : s.size ≤ 64 := by rcases ho with h | ⟨_, _, rfl, _⟩ | ⟨_, _, rfl, _⟩ <;> first | exact h.2.1 | decide
  have HRL := Lib.hid hr
  have er : IntKind.u8.wrap rule = rule := by rw [IntKind.wrap_u8]; omega
  clear hr
  rcases ho with ⟨h1, h2, h3⟩ | ⟨rfl, rfl, rfl, rfl⟩ | ⟨rfl, rfl, rfl, hk0, hk1⟩
  · subst h3
    have H1 := Lib.hid h1
    have eo : IntKind.u8.wrap op = op := by rw [IntKind.wrap_u8]; omega
    have ec : IntKind.u64.wrap cost = cost := by rw [IntKind.wrap_u64]; omega
    have es : IntKind.u8.wrap (s.size : Int) = (s.size : Int) := by rw [IntKind.wrap_u8]; omega
    have en : IntKind.u8.wrap (7 + (s.size : Int)) = 7 + (s.size : Int) := by rw [IntKind.wrap_u8]; omega
    have t4 : (op == 4) = false := by rcases h1 with rfl | rfl <;> rfl
    have t3 : op < 3 := by omega
    have hsz1 : (s.size : Int) ≤ 64 := by omega
    clear h h1
    go_enter Try.func17, Try.ntmps17
    go_upto_region 1 with (fail)
    obtain ⟨w1, hw1, hbk, hbl, hsz1⟩ := box_new w (reqC op rule cost s 0) 24
    change Code.wp _ _ _ _ (w.alloc (.cells (reqC op rule cost s 0) 24))
    rw [hw1]
    obtain ⟨b0, hb0⟩ : ∃ b0, b0 = w.heap.size := ⟨_, rfl⟩
    rw [← hb0] at hbk hsz1 ⊢
    have HB0 := Lib.hid hb0
    have BK := Lib.hid hbk
    have BL := Lib.hid hbl
    have k0 := hbk.rd
    have SB := Lib.hid (show b0 + 1 ≤ w1.heap.size from by rw [hsz1]; exact Nat.le_refl _)
    clear hbk hbl hsz1 hw1 hb0
    have k1a := (BK.out.alloc (.cells #[.int .u8 167, .int .u8 1, .int .u8 0, .int .u8 (7 + (s.size : Int)), .int .u8 op, .int .u8 rule] 5)).rd
    have OL := Lib.hid (show Own (w1.alloc (.cells #[.int .u8 167, .int .u8 1, .int .u8 0, .int .u8 (7 + (s.size : Int)), .int .u8 op, .int .u8 rule] 5)) (b0 + 1) (.slice (some ⟨w1.heap.size, 0, none⟩) 6 6) [167, 1, 0, 7 + (s.size : Int), op, rule] from own_lit w1 (b0 + 1) 6 [167, 1, 0, 7 + (s.size : Int), op, rule] SB.out rfl (by unfold maxLen; omega))
    have BL2 := Lib.hid (BL.out.alloc BL.out.size (.cells #[.int .u8 167, .int .u8 1, .int .u8 0, .int .u8 (7 + (s.size : Int)), .int .u8 op, .int .u8 rule] 5))
    have BK2 := Lib.hid (BK.out.alloc (.cells #[.int .u8 167, .int .u8 1, .int .u8 0, .int .u8 (7 + (s.size : Int)), .int .u8 op, .int .u8 rule] 5))
    have HZW := Lib.hid (show ∀ z ∈ [(s.size : Int)], (Lit.int .u8 z).wf = true from by intro z hz; apply u8_wf; simp only [List.mem_singleton] at hz; rw [hz]; omega)
    have HENC := Lib.hid (show (([167, 1, 0, 7 + (s.size : Int), op, rule] ++ be 4 cost) ++ [(s.size : Int)]) ++ nums s = encZ (mkR op rule cost s 0) from by
      unfold encZ mkR
      simp only
      rw [if_pos t3, nums_length]
      simp)
    go_wp2_with (first
      | (go_at_call 33; ((with_reducible refine (put_x (b0 + 1) _ [167, 1, 0, 7 + (s.size : Int), op, rule] cost 4 4 rfl (by omega) (by omega) (by simp) _ OL.out (by have := SB.out; simp; omega)).mono ?_); rintro e w4 ⟨v4, rfl, o4, f4⟩; have O4 := Lib.hid o4; have BK4 := Lib.hid (BK2.out.fr f4 (by omega)); have BL4 := Lib.hid (BL2.out.trans (f4.below BL2.out.size (fun k hk => by have := HB0.out; omega))); have SB4 := Lib.hid (show b0 + 1 ≤ w4.heap.size from by have := SB.out; have := f4.size; simp at this; omega); have k4 := BK4.out.rd; have R5 := Lib.hid (show RdI (w4.alloc (.cells #[.int .u8 (s.size : Int)] 5)) .u8 (some ⟨w4.heap.size, 0, none⟩) 1 1 [(s.size : Int)] from rd_blk (heap_alloc_new w4 _) rfl (by unfold maxLen; omega) HZW.out); clear o4 f4))
      | (at_builtin; refine wpList_appI (by rfl) _ _ 1 (by rfl) (by rfl) (by rfl) (O4.out.below ((Below.refl _ _).alloc (Nat.le_refl _) _)) R5.out (by simp [be_length]) (by have := SB4.out; simp; omega) ?_; intro v5 w5 o5 hg5; have O5 := Lib.hid o5; have FR5 := Lib.hid ((fr_row hg5).mono (G := fun k => b0 + 1 ≤ k) (fun g hg => (O4.out.lt g hg).1)); have BK5 := Lib.hid ((BK4.out.alloc _).fr FR5.out (by omega)); have BL5 := Lib.hid ((BL4.out.alloc BL4.out.size _).trans (FR5.out.below (by have := BL4.out.size; simp; omega) (fun k hk => by have := HB0.out; omega))); have SB5 := Lib.hid (show b0 + 1 ≤ w5.heap.size from by have := SB4.out; have := FR5.out.size; simp at this; omega); have k5 := BK5.out.rd; clear o5 hg5)
      | (at_builtin; refine wpList_appS (by rfl) _ _ (by rfl) (by rfl) s (by rfl) O5.out (by simp [be_length]; omega) SB5.out ?_; intro v6 w6 o6 hg6; have O6 := Lib.hid o6; have FR6 := Lib.hid ((fr_row hg6).mono (G := fun k => b0 + 1 ≤ k) (fun g hg => (O5.out.lt g hg).1)); have BK6 := Lib.hid (BK5.out.fr FR6.out (by omega)); have BL6 := Lib.hid (BL5.out.trans (FR6.out.below BL5.out.size (fun k hk => by have := HB0.out; omega))); have k6 := BK6.out.rd; clear o6 hg6))
    go_ret
    refine ⟨v6, rfl, ?_, BL6.out⟩
    rw [← HENC.out]
    exact O6.out.more (by have := HB0.out; omega)
  · clear h
    go_enter Try.func17, Try.ntmps17
    go_upto_region 1 with (fail)
    obtain ⟨w1, hw1, hbk, hbl, hsz1⟩ := box_new w (reqC 3 rule 0 ⟨#[]⟩ 0) 24
    change Code.wp _ _ _ _ (w.alloc (.cells (reqC 3 rule 0 ⟨#[]⟩ 0) 24))
    rw [hw1]
    obtain ⟨b0, hb0⟩ : ∃ b0, b0 = w.heap.size := ⟨_, rfl⟩
    rw [← hb0] at hbk hsz1 ⊢
    have HB0 := Lib.hid hb0
    have BL := Lib.hid hbl
    have k0 := hbk.rd
    have k1a := (hbk.alloc (.cells #[.int .u8 167, .int .u8 1, .int .u8 0, .int .u8 2, .int .u8 3, .int .u8 rule] 5)).rd
    have SB := Lib.hid (show b0 + 1 ≤ w1.heap.size from by rw [hsz1]; exact Nat.le_refl _)
    clear hbk hbl hsz1 hw1 hb0
    go_wp2
    go_ret
    refine ⟨_, rfl, ?_, BL.out.alloc BL.out.size _⟩
    exact own_lit w1 w.heap.size 6 [167, 1, 0, 2, 3, rule] BL.out.size rfl (by unfold maxLen; omega)
  · have ek : IntKind.u8.wrap k = k := by rw [IntKind.wrap_u8]; omega
    have HKB := Lib.hid (And.intro hk0 hk1)
    clear h hk0 hk1
    go_enter Try.func17, Try.ntmps17
    go_upto_region 1 with (fail)
    obtain ⟨w1, hw1, hbk, hbl, hsz1⟩ := box_new w (reqC 4 rule 0 ⟨#[]⟩ k) 24
    change Code.wp _ _ _ _ (w.alloc (.cells (reqC 4 rule 0 ⟨#[]⟩ k) 24))
    rw [hw1]
    obtain ⟨b0, hb0⟩ : ∃ b0, b0 = w.heap.size := ⟨_, rfl⟩
    rw [← hb0] at hbk hsz1 ⊢
    have HB0 := Lib.hid hb0
    have BL := Lib.hid hbl
    have k0 := hbk.rd
    have k1a := (hbk.alloc (.cells #[.int .u8 167, .int .u8 1, .int .u8 0, .int .u8 3, .int .u8 4, .int .u8 rule] 5)).rd
    have SB := Lib.hid (show b0 + 1 ≤ w1.heap.size from by rw [hsz1]; exact Nat.le_refl _)
    clear hbk hbl hsz1 hw1 hb0
    have HKW := Lib.hid (show ∀ z ∈ [k], (Lit.int .u8 z).wf = true from by have := HKB.out; intro z hz; apply u8_wf; simp at hz; omega)
    have OL := Lib.hid (show Own (w1.alloc (.cells #[.int .u8 167, .int .u8 1, .int .u8 0, .int .u8 3, .int .u8 4, .int .u8 rule] 5)) (b0 + 1) (.slice (some ⟨w1.heap.size, 0, none⟩) 6 6) [167, 1, 0, 3, 4, rule] from own_lit w1 (b0 + 1) 6 [167, 1, 0, 3, 4, rule] SB.out rfl (by unfold maxLen; omega))
    have R3 := Lib.hid (show RdI ((w1.alloc (.cells #[.int .u8 167, .int .u8 1, .int .u8 0, .int .u8 3, .int .u8 4, .int .u8 rule] 5)).alloc (.cells #[.int .u8 k] 5)) .u8 (some ⟨w1.heap.size + 1, 0, none⟩) 1 1 [k] from rd_blk (two_lit w1 _ _ _) rfl (by unfold maxLen; omega) HKW.out)
    go_wp2_with (at_builtin; refine wpList_appI (by rfl) _ _ 1 (by rfl) (by rfl) (by rfl) (OL.out.below ((Below.refl _ _).alloc (Nat.le_refl _) _)) R3.out (by simp) (by have := SB.out; simp; omega) ?_; intro v4 w4 o4 hg4; have O4 := Lib.hid o4; have BL5 := Lib.hid (((BL.out.alloc BL.out.size _).alloc (by have := BL.out.size; simp; omega) _).trans ((fr_row hg4).below (by have := BL.out.size; simp; omega) (fun g hg => by have := (OL.out.lt g hg).1; have := HB0.out; omega))); clear o4 hg4)
    go_ret
    refine ⟨v4, rfl, ?_, BL5.out⟩
    exact O4.out.more (by have := HB0.out; omega)
end Go.Proofs.Ytdhdheakhcddbaa
