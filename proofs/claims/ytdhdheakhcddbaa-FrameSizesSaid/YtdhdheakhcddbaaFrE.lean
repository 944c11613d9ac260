/- The contracts of layer 13 (frame): Encode, and the document's. -/
import Derived.Test.YtdhdheakhcddbaaFr
namespace Go.Proofs.Ytdhdheakhcddbaa
set_option linter.unusedSimpArgs false
set_option linter.unusedVariables false
open Go.ChangeShapes Go.WideShapes Go.ChangeAt Go.RowKit
def fillN (n : Nat) (x : Int) (i : Nat) : List Int := List.replicate (n - i) 0 ++ be i x
theorem fillN_length (n : Nat) (x : Int) (i : Nat) (h : i ≤ n) : (fillN n x i).length = n := by unfold fillN; rw [List.length_append, List.length_replicate, be_length]; omega
theorem fillN_set (n : Nat) (x : Int) (i : Nat) (h : i < n) : (fillN n x i).set (n - 1 - i) (x / 256 ^ i % 256) = fillN n x (i + 1) := by
  unfold fillN
  rw [be_cons, show n - i = (n - 1 - i) + 1 by omega, show n - (i + 1) = n - 1 - i by omega]
  rw [List.set_append_left _ _ (by simp)]
  rw [List.replicate_succ']
  rw [List.set_append_right _ _ (by simp)]
  simp
theorem fillN_all (n : Nat) (x : Int) : fillN n x n = be n x := by unfold fillN; simp
set_option maxHeartbeats 4000000 in
theorem put_any (B : Nat) (v : Value) (bs : List Int) (x : Int) (n : Nat) (hx : 0 ≤ x ∧ x < 18446744073709551616) (hn : n ≤ 8) (hm : bs.length ≤ 1000000) (w : World) (ho : Own w B v bs) (hB : B ≤ w.heap.size) :
    Calls Try.prog 33 #[v, .int .i64 (n : Int), .int .u64 x] w fun e w' => ∃ v', e = .returned v' ∧ Own w' B v' (bs ++ be n x) ∧ Fr (fun k => B ≤ k) w w' := by
  have HO := Lib.hid ho
  have HBS := Lib.hid hB
  have HX := Lib.hid hx
  obtain ⟨i0, hi, hz0, hz1, hz2⟩ := info_parts info_u8
  have hmk := make_bytes (P := Try.prog) (t := 25) (e := 5) (by rfl) hi hz0 hz1 hz2 n (by omega)
  have hn1 : (n : Int) ≤ 8 := by omega
  clear ho hB hx hi hz0 hz1 hz2
  go_enter Try.func33, Try.ntmps33
  go_wp2
  obtain ⟨w1, hw1, hbk, hbl, hsz⟩ := box_new w (byC (fillN n x 0)) 5
  have e0 : noughts n = byC (fillN n x 0) := by unfold noughts byC fillN be; simp
  rw [e0, hw1]
  obtain ⟨ab, hab⟩ : ∃ ab, ab = w.heap.size := ⟨_, rfl⟩
  rw [← hab] at hbk ⊢
  have HAB := Lib.hid hab
  have B1 := Lib.hid hbk
  have F1 := Lib.hid hbl
  clear hw1 hbk hbl hsz hab e0 hmk
  go_loopg [2, 8] n (fun k s2 s8 wr => ∃ i : Nat, i ≤ n ∧ k = n - i ∧ s2 = .int .u64 (x / 256 ^ i) ∧ s8 = .int .i64 ((n : Int) - 1 - (i : Int)) ∧ Blk wr ab 5 (byC (fillN n x i)) ∧ Fr (fun k => k = ab) w1 wr)
  case atStart => exact ⟨0, by omega, by omega, by simp, by first | rfl | go_num, B1.out, Fr.refl _ _⟩
  case round =>
    obtain ⟨i, hi, hkk, rfl, rfl, hb, hf⟩ := hrel
    have HK := Lib.hid hkk
    have HB := Lib.hid hb
    have HF := Lib.hid hf
    clear hkk hf
    by_cases hin : i < n
    · obtain ⟨y, hy⟩ : ∃ y, y = x / 256 ^ i := ⟨_, rfl⟩
      have hy0 : 0 ≤ y ∧ y < 18446744073709551616 := by
        have hp : (0 : Int) < 256 ^ i := Int.pow_pos (by decide)
        have hx := HX.out
        rw [hy]
        exact ⟨Int.ediv_nonneg hx.1 (by omega), Int.lt_of_le_of_lt (Int.ediv_le_self _ hx.1) hx.2⟩
      rw [← hy]
      obtain ⟨z, hz⟩ : ∃ z, y % 256 = z := ⟨_, rfl⟩
      have hz1 : 0 ≤ z ∧ z ≤ 255 := by omega
      have e3 : IntKind.u8.wrap z = z := by rw [IntKind.wrap_u8]; omega
      have HS := Lib.hid (show (fillN n x i).set (n - 1 - i) z = fillN n x (i + 1) from by rw [← hz, hy]; exact fillN_set n x i hin)
      have HY := Lib.hid (show x / 256 ^ (i + 1) = y / 256 from by rw [hy, Int.pow_succ, Int.ediv_ediv_of_nonneg (Int.pow_nonneg (by decide))])
      have kw := hb.wr
      have hsz := fillN_length n x i hi
      obtain ⟨j, hj⟩ : ∃ j : Nat, (n : Int) - 1 - (i : Int) = (j : Int) := ⟨n - 1 - i, by omega⟩
      have hj7 : j < n := by omega
      have hj8 : (j : Int) ≤ 8 := by omega
      have HJ := Lib.hid hj
      have kx : wr.cell? ⟨ab, j, none⟩ = some (.int .u8 ((fillN n x i).getD j 0)) := by rw [hb.rd]; exact byC_get _ _ (by omega)
      rw [hj]
      clear hy hb hsz hj
      go_wp2
      go_roundg (n - (i + 1))
      case measure => have := HK.out; omega
      case rel =>
        have hl := lt_of_block HB.out
        have hj := HJ.out
        have ej : j = n - 1 - i := by omega
        rw [setCell_obj HB.out, byC_set, ej, HS.out]
        refine ⟨i + 1, by omega, by omega, by rw [HY.out], ?_, setObj_at hl _, HF.out.trans (Fr.setObj (F := fun k => k = ab) (Fr.refl _ _) rfl _)⟩
        first | (congr 1; omega) | go_num
    · have hie : i = n := by omega
      subst hie
      have t : (i : Int) - 1 - (i : Int) = -1 := by omega
      rw [t]
      have HR := Lib.hid (show RdI wr .u8 (some ⟨ab, 0, none⟩) i i (be i x) from by
        rw [fillN_all] at hb
        exact rd_blk hb (be_length i x) (by unfold maxLen; omega) (fun z hz => u8_wf (be_byt _ _ z hz)))
      have HO2 := Lib.hid ((HO.out.below F1.out).fr HF.out (fun g hg => by have := (HO.out.lt g hg).2; have := HAB.out; omega))
      clear hb t
      go_wp2_with (at_builtin; refine wpList_appI (by rfl) _ _ i (by rfl) (by rfl) (by rfl) HO2.out HR.out (by omega) (by have := HBS.out; have := F1.out.size; have := HF.out.size; omega) ?_; intro v' w9 hown9 hgrow9; have HO9 := Lib.hid hown9; have HG9 := Lib.hid hgrow9; clear hown9 hgrow9)
      go_ret
      refine ⟨v', rfl, HO9.out, ?_⟩
      refine (((Fr.of_below F1.out).trans (HF.out.mono (fun k hk => ?_))).trans ((fr_row HG9.out).mono (fun k hk => ?_)))
      · have := HBS.out; have := HAB.out; omega
      · exact (HO.out.lt k hk).1
theorem put_x (B : Nat) (v : Value) (bs : List Int) (x z : Int) (n : Nat) (hz : z = (n : Int)) (hx : 0 ≤ x ∧ x < 18446744073709551616) (hn : n ≤ 8) (hm : bs.length ≤ 1000000) (w : World) (ho : Own w B v bs) (hB : B ≤ w.heap.size) :
    Calls Try.prog 33 #[v, .int .i64 z, .int .u64 x] w fun e w' => ∃ v', e = .returned v' ∧ Own w' B v' (bs ++ be n x) ∧ Fr (fun k => B ≤ k) w w' := by
  subst hz
  exact put_any B v bs x n hx hn hm w ho hB
theorem be2 (n : Int) (h : 0 ≤ n ∧ n < 256) : be 2 n = [0, n] := by
  simp [be]; omega
theorem two_lit (w : World) (o : Obj) (c : Array Value) (t : TypeId) : Blk ((w.alloc o).alloc (.cells c t)) (w.heap.size + 1) t c := by
  have h := heap_alloc_new (w.alloc o) (.cells c t)
  rw [show (w.alloc o).heap.size = w.heap.size + 1 by simp] at h
  exact h
theorem own_lit (w : World) (base n : Nat) (xs : List Int) (hb : base ≤ w.heap.size) (hl : xs.length = n) (hm : n ≤ maxLen) : Own (w.alloc (.cells (byC xs) 5)) base (.slice (some ⟨w.heap.size, 0, none⟩) n n) xs :=
  own_blk (heap_alloc_new w _) hb hl hm
/-- what Right asks, taken apart. -/
theorem right_op {op rule cost k rules : Int} {s : ByteArray} (h : rightP (mkR op rule cost s k) rules) : (0 ≤ rule ∧ rule < rules ∧ rule ≤ 255) ∧ (((op = 1 ∨ op = 2) ∧ s.size ≤ 64 ∧ k = 0) ∨ (op = 3 ∧ cost = 0 ∧ s = ⟨#[]⟩ ∧ k = 0) ∨ (op = 4 ∧ cost = 0 ∧ s = ⟨#[]⟩ ∧ 0 ≤ k ∧ k ≤ 255)) := by
  unfold rightP mkR at h
  simp only [nums_length, nums_nil] at h
  refine ⟨h.1, ?_⟩
  rcases h.2 with a | ⟨a, b, c, d⟩ | ⟨a, b, c, d⟩
  · exact .inl a
  · exact .inr (.inl ⟨a, b, size0 c, d⟩)
  · exact .inr (.inr ⟨a, b, size0 c, d⟩)
set_option maxHeartbeats 4000000 in
theorem encode_any (op rule cost k : Int) (s : ByteArray) (w : World) (h : rightP (mkR op rule cost s k) 256) (hc : 0 ≤ cost ∧ cost < 4294967296) :
    Calls Try.prog 16 #[reqV op rule cost s k] w fun e w' => ∃ v, e = .returned v ∧ Own w' w.heap.size v (encZ (mkR op rule cost s k)) ∧ Below w.heap.size w w' := by
  have H := Lib.hid h
  obtain ⟨hr, ho⟩ := right_op h
  have hsz : s.size ≤ 64 := by rcases ho with h | ⟨_, _, rfl, _⟩ | ⟨_, _, rfl, _⟩ <;> first | exact h.2.1 | decide
  have CR := Lib.hid (fun w => (right_any op rule cost k 256 s w (by unfold maxLen; omega)).1 h)
  have HRL := Lib.hid hr
  clear hr
  rcases ho with ⟨h1, h2, h3⟩ | ⟨rfl, rfl, rfl, rfl⟩ | ⟨rfl, rfl, rfl, hk0, hk1⟩
  · subst h3
    have H1 := Lib.hid h1
    have eo : IntKind.u8.wrap op = op := by rw [IntKind.wrap_u8]; omega
    have er : IntKind.u8.wrap rule = rule := by have := HRL.out; rw [IntKind.wrap_u8]; omega
    have ec : IntKind.u64.wrap cost = cost := by rw [IntKind.wrap_u64]; omega
    have t4 : (op == 4) = false := by rcases h1 with rfl | rfl <;> rfl
    have t3 : op < 3 := by omega
    have t12 : (op == 1) = true ∨ ((op == 1) = false ∧ (op == 2) = true) := by rcases h1 with rfl | rfl <;> simp
    clear h h1
    rcases t12 with t1 | ⟨t1, t2⟩
    all_goals
      go_enter Try.func16, Try.ntmps16
      go_upto_region 1 with (fail)
      obtain ⟨w1, hw1, hbk, hbl, hsz1⟩ := box_new w (reqC op rule cost s 0) 24
      change Code.wp _ _ _ _ (w.alloc (.cells (reqC op rule cost s 0) 24))
      rw [hw1]
      obtain ⟨b0, hb0⟩ : ∃ b0, b0 = w.heap.size := ⟨_, rfl⟩
      rw [← hb0] at hbk hsz1 ⊢
      have HB0 := Lib.hid hb0
      have BK := Lib.hid hbk
      have BL := Lib.hid hbl
      have S1 := Lib.hid hsz1
      have k0 := hbk.rd
      clear hbk hbl hsz1 hw1 hb0
      have SB := Lib.hid (show b0 + 1 ≤ w1.heap.size from by rw [S1.out]; exact Nat.le_refl _)
      have HBY := Lib.hid (show byt (([op, rule] ++ be 4 cost) ++ ((s.size % 256 : Nat) : Int) :: nums s) from byt_app (byt_app (by have := H1.out; have := HRL.out; intro z hz; simp at hz; omega) (be_byt _ _)) (by intro z hz; simp at hz; rcases hz with rfl | hz; omega; exact nums_bd s z hz))
      have HLEN := Lib.hid (show (([op, rule] ++ be 4 cost) ++ ((s.size % 256 : Nat) : Int) :: nums s).length = 7 + s.size from by simp [be_length, nums_length]; omega)
      have HENC := Lib.hid (show 167 :: 1 :: (be 2 ((7 + s.size : Nat) : Int) ++ (([op, rule] ++ be 4 cost) ++ ((s.size % 256 : Nat) : Int) :: nums s)) = encZ (mkR op rule cost s 0) from by
        have h1 := H1.out
        unfold encZ mkR
        simp only
        rw [if_pos (by omega), be2 _ (by omega), nums_length, Nat.mod_eq_of_lt (by omega : s.size < 256)]
        simp)
      go_wp2_with (first
        | (go_at_call 14; ((with_reducible refine (CR.out _).mono ?_); rintro e w2 ⟨rfl, b2⟩; have BK2 := Lib.hid (BK.out.keep b2); have BL2 := Lib.hid (BL.out.trans (b2.mono BL.out.size)); have SB2 := Lib.hid (Nat.le_trans SB.out b2.size); have k2 := BK2.out.rd; have k2a := (BK2.out.alloc (.cells #[.int .u8 op, .int .u8 rule] 5)).rd; have OL := Lib.hid (show Own (w2.alloc (.cells #[.int .u8 op, .int .u8 rule] 5)) (b0 + 1) (.slice (some ⟨w2.heap.size, 0, none⟩) 2 2) [op, rule] from own_lit w2 (b0 + 1) 2 [op, rule] SB2.out rfl (by unfold maxLen; omega)); clear b2))
        | (go_at_call 30; ((with_reducible refine (number_x (b0 + 1) _ [op, rule] cost 4 4 rfl (by omega) (by omega) (by simp) _ OL.out (by have := SB2.out; simp; omega)).mono ?_); rintro e w4 ⟨v4, rfl, o4, f4⟩; have O4 := Lib.hid o4; have BK4 := Lib.hid ((BK2.out.alloc _).fr f4 (by omega)); have BL4 := Lib.hid ((BL2.out.alloc BL2.out.size _).trans (f4.below (by have := BL2.out.size; simp; omega) (fun k hk => by have := HB0.out; omega))); have SB4 := Lib.hid (show b0 + 1 ≤ w4.heap.size from by have := SB2.out; have := f4.size; simp at this; omega); have k4 := BK4.out.rd; clear o4 f4))
        | (go_at_call 31; ((with_reducible refine (text_any (b0 + 1) _ _ s (by omega) (by simp [be_length]) _ O4.out SB4.out).mono ?_); rintro e w5 ⟨v5, rfl, o5, f5⟩; obtain ⟨A5, c5, rfl, r5, _⟩ := o5.rd HBY.out; rw [HLEN.out] at r5; have R5 := Lib.hid r5; have BL5 := Lib.hid (BL4.out.trans (f5.below BL4.out.size (fun k hk => by have := HB0.out; omega))); rw [HLEN.out]; clear o5 f5 r5))
        | (go_at_call 32; ((with_reducible refine (framed_any 167 (by omega) A5 _ c5 _ (by omega) _ R5.out).mono ?_); rintro e w6 ⟨v6, rfl, o6, b6⟩; have O6 := Lib.hid o6; have BL6 := Lib.hid (BL5.out.trans (b6.mono BL5.out.size)); clear o6 b6)))
      go_ret
      refine ⟨v6, rfl, ?_, BL6.out⟩
      rw [← HENC.out]
      exact O6.out.more BL5.out.size
  · have er : IntKind.u8.wrap rule = rule := by have := HRL.out; rw [IntKind.wrap_u8]; omega
    clear h
    go_enter Try.func16, Try.ntmps16
    go_upto_region 1 with (fail)
    obtain ⟨w1, hw1, hbk, hbl, hsz1⟩ := box_new w (reqC 3 rule 0 ⟨#[]⟩ 0) 24
    change Code.wp _ _ _ _ (w.alloc (.cells (reqC 3 rule 0 ⟨#[]⟩ 0) 24))
    rw [hw1]
    obtain ⟨b0, hb0⟩ : ∃ b0, b0 = w.heap.size := ⟨_, rfl⟩
    rw [← hb0] at hbk hsz1 ⊢
    have HB0 := Lib.hid hb0
    have BK := Lib.hid hbk
    have BL := Lib.hid hbl
    have S1 := Lib.hid hsz1
    have k0 := hbk.rd
    clear hbk hbl hsz1 hw1 hb0
    have SB := Lib.hid (show b0 + 1 ≤ w1.heap.size from by rw [S1.out]; exact Nat.le_refl _)
    have HRLB := Lib.hid (show ∀ z ∈ [3, rule], (Lit.int .u8 z).wf = true from by have := HRL.out; intro z hz; apply u8_wf; simp at hz; omega)
    go_wp2_with (first
      | (go_at_call 14; ((with_reducible refine (CR.out _).mono ?_); rintro e w2 ⟨rfl, b2⟩; have BK2 := Lib.hid (BK.out.keep b2); have BL2 := Lib.hid (BL.out.trans (b2.mono BL.out.size)); have k2 := BK2.out.rd; have k2a := (BK2.out.alloc (.cells #[.int .u8 3, .int .u8 rule] 5)).rd; have R5 := Lib.hid (show RdI (w2.alloc (.cells #[.int .u8 3, .int .u8 rule] 5)) .u8 (some ⟨w2.heap.size, 0, none⟩) 2 2 [3, rule] from rd_blk (heap_alloc_new w2 _) rfl (by unfold maxLen; omega) HRLB.out); have BL5 := Lib.hid (BL2.out.alloc BL2.out.size (.cells #[.int .u8 3, .int .u8 rule] 5)); clear b2))
      | (go_at_call 32; ((with_reducible refine (framed_any 167 (by omega) _ 2 2 _ (by omega) _ R5.out).mono ?_); rintro e w6 ⟨v6, rfl, o6, b6⟩; have O6 := Lib.hid o6; have BL6 := Lib.hid (BL5.out.trans (b6.mono BL5.out.size)); clear o6 b6)))
    go_ret
    refine ⟨v6, rfl, ?_, BL6.out⟩
    exact O6.out.more BL5.out.size
  · have er : IntKind.u8.wrap rule = rule := by have := HRL.out; rw [IntKind.wrap_u8]; omega
    have ek : IntKind.u8.wrap k = k := by rw [IntKind.wrap_u8]; omega
    have HKB := Lib.hid (And.intro hk0 hk1)
    clear h hk0 hk1
    go_enter Try.func16, Try.ntmps16
    go_upto_region 1 with (fail)
    obtain ⟨w1, hw1, hbk, hbl, hsz1⟩ := box_new w (reqC 4 rule 0 ⟨#[]⟩ k) 24
    change Code.wp _ _ _ _ (w.alloc (.cells (reqC 4 rule 0 ⟨#[]⟩ k) 24))
    rw [hw1]
    obtain ⟨b0, hb0⟩ : ∃ b0, b0 = w.heap.size := ⟨_, rfl⟩
    rw [← hb0] at hbk hsz1 ⊢
    have HB0 := Lib.hid hb0
    have BK := Lib.hid hbk
    have BL := Lib.hid hbl
    have S1 := Lib.hid hsz1
    have k0 := hbk.rd
    clear hbk hbl hsz1 hw1 hb0
    have SB := Lib.hid (show b0 + 1 ≤ w1.heap.size from by rw [S1.out]; exact Nat.le_refl _)
    have HBY := Lib.hid (show byt ([4, rule] ++ [k]) from by have := HRL.out; have := HKB.out; intro z hz; simp at hz; omega)
    have HLEN := Lib.hid (show ([4, rule] ++ [k]).length = 3 from rfl)
    have HKW := Lib.hid (show ∀ z ∈ [k], (Lit.int .u8 z).wf = true from by have := HKB.out; intro z hz; apply u8_wf; simp at hz; omega)
    go_wp2_with (first
      | (go_at_call 14; ((with_reducible refine (CR.out _).mono ?_); rintro e w2 ⟨rfl, b2⟩; have BK2 := Lib.hid (BK.out.keep b2); have BL2 := Lib.hid (BL.out.trans (b2.mono BL.out.size)); have SB2 := Lib.hid (Nat.le_trans SB.out b2.size); have k2 := BK2.out.rd; have k2a := (BK2.out.alloc (.cells #[.int .u8 4, .int .u8 rule] 5)).rd; have OL := Lib.hid (show Own (w2.alloc (.cells #[.int .u8 4, .int .u8 rule] 5)) (b0 + 1) (.slice (some ⟨w2.heap.size, 0, none⟩) 2 2) [4, rule] from own_lit w2 (b0 + 1) 2 [4, rule] SB2.out rfl (by unfold maxLen; omega)); clear b2; have R3 := Lib.hid (show RdI ((w2.alloc (.cells #[.int .u8 4, .int .u8 rule] 5)).alloc (.cells #[.int .u8 k] 5)) .u8 (some ⟨w2.heap.size + 1, 0, none⟩) 1 1 [k] from rd_blk (two_lit w2 _ _ _) rfl (by unfold maxLen; omega) HKW.out)))
      | (at_builtin; refine wpList_appI (by rfl) _ _ 1 (by rfl) (by rfl) (by rfl) (OL.out.below ((Below.refl _ _).alloc (Nat.le_refl _) _)) R3.out (by simp) (by have := SB2.out; simp; omega) ?_; intro v4 w4 o4 hg4; obtain ⟨A5, c5, rfl, r5, _⟩ := o4.rd HBY.out; rw [HLEN.out] at r5; have R5 := Lib.hid r5; rw [HLEN.out]; have BL5 := Lib.hid (((BL2.out.alloc BL2.out.size _).alloc (by have := BL2.out.size; simp; omega) _).trans ((fr_row hg4).below (by have := BL2.out.size; simp; omega) (fun g hg => by have := (OL.out.lt g hg).1; have := HB0.out; omega))); clear o4 hg4 r5)
      | (go_at_call 32; ((with_reducible refine (framed_any 167 (by omega) A5 3 c5 _ (by omega) _ R5.out).mono ?_); rintro e w6 ⟨v6, rfl, o6, b6⟩; have O6 := Lib.hid o6; have BL6 := Lib.hid (BL5.out.trans (b6.mono BL5.out.size)); clear o6 b6)))
    go_ret
    refine ⟨v6, rfl, ?_, BL6.out⟩
    exact O6.out.more BL5.out.size
end Go.Proofs.Ytdhdheakhcddbaa
