/- The contracts of layer 13 (frame): the document's lists of keys. -/
import Derived.Test.YtdhdheakhcddbaaFaL
namespace Go.Proofs.Ytdhdheakhcddbaa
set_option linter.unusedSimpArgs false
set_option linter.unusedVariables false
open Go.ChangeShapes Go.WideShapes Go.ChangeAt Go.RowKit Go.Deep
set_option maxHeartbeats 8000000 in
theorem rlisted_any (rule : Int) (A : Option Addr) (n c : Nat) (ls : List CV) (hr : 0 ≤ rule ∧ rule ≤ 255) (hl : ls.length = n) (hn : n ≤ 255) (w : World) (ha : CvAt w A c ls) (hok : ∀ a ∈ ls, a.okV) (hsz : ∀ a ∈ ls, a.s.size ≤ 64) :
    Calls Try.prog 27 #[.int .i64 rule, .slice A n c] w fun e w' => ∃ v', e = .returned v' ∧ Own w' w.heap.size v' (frmZ (topZ rule (zs ls))) ∧ Below w.heap.size w w' := by
  have eop : IntKind.u8.wrap rule = rule := by rw [IntKind.wrap_u8]; omega
  have en : IntKind.u8.wrap (n : Int) = (n : Int) := by rw [IntKind.wrap_u8]; omega
  have hcp := ha.cap
  rw [hl] at hcp
  have hmx := ha.max
  unfold maxLen at hmx
  have HL := Lib.hid hl
  have HA := Lib.hid ha
  have HOK := Lib.hid hok
  have HSZ := Lib.hid hsz
  have HOZ := Lib.hid (zs_ok hok hsz)
  have HRL := Lib.hid hr
  have hn1 : (n : Int) ≤ 255 := by omega
  have OL := Lib.hid (show Own (w.alloc (.cells #[.int .u8 132, .int .u8 rule, .int .u8 (n : Int)] 5)) w.heap.size (.slice (some ⟨w.heap.size, 0, none⟩) 3 3) [132, rule, (n : Int)] from own_lit w w.heap.size 3 [132, rule, (n : Int)] (Nat.le_refl _) rfl (by unfold maxLen; omega))
  have F0 := Lib.hid (FrU.alloc (B := w.heap.size) (Nat.le_refl w.heap.size) (.cells #[.int .u8 132, .int .u8 rule, .int .u8 (n : Int)] 5))
  clear hr hl ha hok hsz
  go_enter Try.func27, Try.ntmps27
  go_upto_region 2 with (fail)
  go_wp2
  go_loopg [5, 6] n (fun k v s6 wr => ∃ i : Nat, i ≤ n ∧ k = n - i ∧ s6 = .int .i64 (i : Int) ∧ Own wr w.heap.size v ([132, rule, (n : Int)] ++ flat (zs (ls.take i))) ∧ FrU w.heap.size w wr)
  case atStart => exact ⟨0, by omega, by omega, rfl, by simpa [zs, flat] using OL.out, F0.out⟩
  case round =>
    obtain ⟨i, hi, hkk, rfl, hown, hf⟩ := hrel
    have HK := Lib.hid hkk
    have HOW := Lib.hid hown
    have HF := Lib.hid hf
    clear hkk hown
    by_cases hin : i < n
    · have hil : i < ls.length := by rw [HL.out]; exact hin
      have HNX := Lib.hid (zs_take hil)
      have HLE := Lib.hid (flat_take HOZ.out i)
      obtain ⟨a, haa⟩ : ∃ a, a = ls[i] := ⟨_, rfl⟩
      have hal : a ∈ ls := by rw [haa]; exact List.getElem_mem hil
      have OKA := Lib.hid (HOK.out a hal)
      have hss := HSZ.out a hal
      have HAW := Lib.hid (HA.out.below (hf.below (Nat.le_refl _)))
      obtain ⟨g, off, rfl, hlt, hc⟩ := HAW.out.at_ (by omega)
      have c0 := hc i hil 0 (by omega)
      rw [← haa] at c0 HNX
      have HC := Lib.hid (fun (wx : World) (hx : Below wr.heap.size wr wx) => show wx.cell? ⟨g, off + i * 3, none⟩ = some (.string a.s) ∧ wx.cell? ⟨g, off + i * 3 + 1, none⟩ = some (.int .i64 a.n) ∧ wx.cell? ⟨g, off + i * 3 + 2, none⟩ = some (.int .i64 a.e) from by
        rw [hx.cell (p := ⟨g, off + i * 3, none⟩) hlt, hx.cell (p := ⟨g, off + i * 3 + 1, none⟩) hlt, hx.cell (p := ⟨g, off + i * 3 + 2, none⟩) hlt]
        rw [haa]
        exact ⟨hc i hil 0 (by omega), hc i hil 1 (by omega), hc i hil 2 (by omega)⟩)
      obtain ⟨s, cn, ce⟩ := a
      have HS64 := Lib.hid (show s.size ≤ 64 from hss)
      have es : IntKind.u8.wrap (s.size : Int) = (s.size : Int) := by have : s.size ≤ 64 := hss; rw [IntKind.wrap_u8]; omega
      have hsb : (s.size : Int) ≤ 64 := by have : s.size ≤ 64 := hss; omega
      have HZZ := Lib.hid (show ∀ l : List Int, ((((l ++ [(s.size : Int)]) ++ nums s) ++ be 8 cn) ++ be 8 ce) = l ++ (CV.z ⟨s, cn, ce⟩).z from fun l => by
        unfold CV.z Cnt.z
        simp [nums_length])
      simp [CV.cells] at c0
      have SZR := Lib.hid (show w.heap.size ≤ wr.heap.size from HF.out.size)
      have HZW := Lib.hid (show RdI (wr.alloc (.cells #[.int .u8 (s.size : Int)] 5)) .u8 (some ⟨wr.heap.size, 0, none⟩) 1 1 [(s.size : Int)] from rd_blk (heap_alloc_new wr _) rfl (by unfold maxLen; omega) (by intro z hz; apply u8_wf; simp only [List.mem_singleton] at hz; rw [hz]; omega))
      have OA := Lib.hid (HOW.out.below ((Below.refl _ _).alloc (Nat.le_refl _) (.cells #[.int .u8 (s.size : Int)] 5)))
      have FA := Lib.hid (HF.out.trans (FrU.alloc SZR.out (.cells #[.int .u8 (s.size : Int)] 5)))
      have BA := Lib.hid ((Below.refl wr.heap.size wr).alloc (Nat.le_refl _) (.cells #[.int .u8 (s.size : Int)] 5))
      have HL5 := Lib.hid (show ([132, rule, (n : Int)] ++ flat (zs (ls.take i))).length ≤ 30000 from by have := HLE.out; have := HL.out; simp; omega)
      have HLB := Lib.hid (fun (k : Nat) (hk : k < w.heap.size) => hk)
      have HAG := Lib.hid (show g < w.heap.size from by
        obtain ⟨g', off', e', hlt', _⟩ := HA.out.at_ (by omega)
        injection e' with e'; injection e' with e1 e2
        rw [e1]; exact hlt')
      have HCW := Lib.hid (fun (wx : World) (hx : FrU w.heap.size wr wx) => show wx.cell? ⟨g, off + i * 3, none⟩ = some (.string s) ∧ wx.cell? ⟨g, off + i * 3 + 1, none⟩ = some (.int .i64 cn) ∧ wx.cell? ⟨g, off + i * 3 + 2, none⟩ = some (.int .i64 ce) from by
        have h0 := HC.out wr (Below.refl _ _)
        have hb := (hx.below SZR.out)
        rw [hb.cell (p := ⟨g, off + i * 3, none⟩) HAG.out, hb.cell (p := ⟨g, off + i * 3 + 1, none⟩) HAG.out, hb.cell (p := ⟨g, off + i * 3 + 2, none⟩) HAG.out]
        exact h0)
      clear haa hc hf hal hss HC
      go_upto_region 7 with (first
        | (at_builtin; refine wpList_appI (by rfl) _ _ 1 (by rfl) (by rfl) (by rfl) OA.out HZW.out (by have := HL5.out; omega) FA.out.size ?_; intro v4 w4 o4 g4; have O4 := Lib.hid o4; have F4 := Lib.hid (FA.out.trans (FrU.row OA.out g4)); have c4 := (HCW.out w4 ((FrU.alloc SZR.out _).trans (FrU.row OA.out g4))).1; have R4 := Lib.hid ((FrU.alloc SZR.out _).trans (FrU.row OA.out g4)); clear o4 g4)
        | (at_builtin; refine wpList_appS (by rfl) _ _ (by rfl) (by rfl) s (by rfl) O4.out (by have := HL5.out; have := HS64.out; rw [List.length_append, List.length_singleton]; omega) F4.out.size ?_; intro v6 w6 o6 g6; have O6 := Lib.hid o6; have F6 := Lib.hid (F4.out.trans (FrU.row O4.out g6)); have R6 := Lib.hid (R4.out.trans (FrU.row O4.out g6)); clear o6 g6))
      have y1 : w6.drew.cell? ⟨g, off + i * 3 + 1, none⟩ = some (.int .i64 cn) := (HCW.out w6 R6.out).2.1
      have y2 : w6.drew.cell? ⟨g, off + i * 3 + 2, none⟩ = some (.int .i64 ce) := (HCW.out w6 R6.out).2.2
      have SS := Lib.hid (fun (wx : World) (hx : FrU w.heap.size wr wx) => show wx.cell? ⟨g, off + i * 3 + 1, none⟩ = some (.int .i64 cn) ∧ wx.cell? ⟨g, off + i * 3 + 2, none⟩ = some (.int .i64 ce) from ⟨(HCW.out wx hx).2.1, (HCW.out wx hx).2.2⟩)
      have F6d := Lib.hid (show FrU w.heap.size w w6.drew from F6.out.trans (FrU.of_below (below_draws (Below.refl _ _) 1)))
      have R6d := Lib.hid (show FrU w.heap.size wr w6.drew from R6.out.trans (FrU.of_below (below_draws (Below.refl _ _) 1)))
      have O6d := Lib.hid (show Own w6.drew w.heap.size v6 _ from O6.out.below (below_draws (Below.refl _ _) 1))
      have HL6 := Lib.hid (show ((([132, rule, (n : Int)] ++ flat (zs (ls.take i))) ++ [(s.size : Int)]) ++ nums s).length ≤ 40000 from by have := HL5.out; have := HS64.out; rw [List.length_append, List.length_append, nums_length]; simp only [List.length_singleton]; omega)
      have HCE := Lib.hid (show i64P ce from OKA.out.2.2)
      have CP := Lib.hid (put_v w.heap.size v6 _ cn OKA.out.2.1 (by have := HL6.out; omega) w6.drew O6d.out F6d.out.size)
      refine wp_region_held_drew (S := fun w' => w'.cell? ⟨g, off + i * 3 + 1, none⟩ = some (.int .i64 cn) ∧ w'.cell? ⟨g, off + i * 3 + 2, none⟩ = some (.int .i64 ce)) (by kernel_rfl) ⟨y1, y2⟩ (fun hHeld => ?_)
      clear y1 y2
      refine wpAnyH_take (i := 0) (oi := ?_) (v := ?_) ?_ ?_ ?_ ?_ ?_ ?_ ?_ ?_
      rotate_left 2
      · simp only [List.getElem?_toArray, List.getElem?_cons_succ, List.getElem?_cons_zero]; rfl
      · kernel_rfl
      · kernel_rfl
      · kernel_rfl
      · exact fun _ _ _ h => h
      · refine Or.inl ⟨by rfl, ?_⟩
        intro w' hSw
        (try dsimp only at hSw)
        go_simp
        all_goals (with_reducible rfl)
      · assumption
      try simp only [Act.put, List.setIfInBounds_toArray, List.set_cons_zero, List.set_cons_succ]
      refine wpAnyH_take (i := 1) (oi := ?_) (v := ?_) ?_ ?_ ?_ ?_ ?_ ?_ ?_ ?_
      rotate_left 2
      · simp only [List.getElem?_toArray, List.getElem?_cons_succ, List.getElem?_cons_zero]; rfl
      · kernel_rfl
      · kernel_rfl
      · kernel_rfl
      · exact fun _ _ _ h => h
      · refine Or.inl ⟨by rfl, ?_⟩
        intro w' hSw
        (try dsimp only at hSw)
        go_simp
        all_goals (with_reducible rfl)
      · assumption
      try simp only [Act.put, List.setIfInBounds_toArray, List.set_cons_zero, List.set_cons_succ]
      refine wpAnyH_take (i := 2) (oi := ?_) (v := ?_) ?_ ?_ ?_ ?_ ?_ ?_ ?_ ?_
      rotate_left 2
      · simp only [List.getElem?_toArray, List.getElem?_cons_succ, List.getElem?_cons_zero]; rfl
      · kernel_rfl
      · kernel_rfl
      · kernel_rfl
      · exact fun _ _ _ h => h
      · refine Or.inl ⟨by rfl, ?_⟩
        intro w' hSw
        (try dsimp only at hSw)
        go_simp
        all_goals (with_reducible rfl)
      · assumption
      try simp only [Act.put, List.setIfInBounds_toArray, List.set_cons_zero, List.set_cons_succ]
      refine wpAnyH_take (i := 3) (oi := ?_) (v := ?_) ?_ ?_ ?_ ?_ ?_ ?_ ?_ ?_
      rotate_left 2
      · simp only [List.getElem?_toArray, List.getElem?_cons_succ, List.getElem?_cons_zero]; rfl
      · kernel_rfl
      · kernel_rfl
      · kernel_rfl
      · exact fun _ _ _ h => h
      · refine Or.inl ⟨by rfl, ?_⟩
        intro w' hSw
        (try dsimp only at hSw)
        go_simp
        all_goals (with_reducible rfl)
      · assumption
      try simp only [Act.put, List.setIfInBounds_toArray, List.set_cons_zero, List.set_cons_succ]
      refine wpAnyH_take (i := 4) (oi := ?_) (v := ?_) ?_ ?_ ?_ ?_ ?_ ?_ ?_ ?_
      rotate_left 2
      · simp only [List.getElem?_toArray, List.getElem?_cons_succ, List.getElem?_cons_zero]; rfl
      · kernel_rfl
      · kernel_rfl
      · kernel_rfl
      · exact fun _ _ _ h => h
      · refine Or.inl ⟨by rfl, ?_⟩
        intro w' hSw
        (try dsimp only at hSw)
        go_simp
        all_goals (with_reducible rfl)
      · assumption
      try simp only [Act.put, List.setIfInBounds_toArray, List.set_cons_zero, List.set_cons_succ]
      refine wpAnyH_take (i := 5) (oi := ?_) (v := ?_) ?_ ?_ ?_ ?_ ?_ ?_ ?_ ?_
      rotate_left 2
      · simp only [List.getElem?_toArray, List.getElem?_cons_succ, List.getElem?_cons_zero]; rfl
      · kernel_rfl
      · kernel_rfl
      · kernel_rfl
      · exact fun _ _ _ h => h
      · refine Or.inl ⟨by rfl, ?_⟩
        intro w' hSw
        (try dsimp only at hSw)
        go_simp
        all_goals (with_reducible rfl)
      · assumption
      try simp only [Act.put, List.setIfInBounds_toArray, List.set_cons_zero, List.set_cons_succ]
      refine wpAnyH_take (i := 6) (oi := ?_) (v := ?_) ?_ ?_ ?_ ?_ ?_ ?_ ?_ ?_
      rotate_left 2
      · simp only [List.getElem?_toArray, List.getElem?_cons_succ, List.getElem?_cons_zero]; rfl
      · kernel_rfl
      · kernel_rfl
      · kernel_rfl
      · exact fun _ _ _ h => h
      · refine Or.inl ⟨by rfl, ?_⟩
        intro w' hSw
        (try dsimp only at hSw)
        go_simp
        all_goals (with_reducible rfl)
      · assumption
      try simp only [Act.put, List.setIfInBounds_toArray, List.set_cons_zero, List.set_cons_succ]
      refine wpAnyH_take (i := 8) (oi := ?_) (v := ?_) ?_ ?_ ?_ ?_ ?_ ?_ ?_ ?_
      rotate_left 2
      · simp only [List.getElem?_toArray, List.getElem?_cons_succ, List.getElem?_cons_zero]; rfl
      · kernel_rfl
      · kernel_rfl
      · kernel_rfl
      · exact fun _ _ _ h => h
      · refine Or.inl ⟨by rfl, ?_⟩
        intro w' hSw
        (try dsimp only at hSw)
        go_simp
        all_goals (with_reducible rfl)
      · assumption
      try simp only [Act.put, List.setIfInBounds_toArray, List.set_cons_zero, List.set_cons_succ]
      refine wpAnyH_take (i := 9) (oi := ?_) (v := ?_) ?_ ?_ ?_ ?_ ?_ ?_ ?_ ?_
      rotate_left 2
      · simp only [List.getElem?_toArray, List.getElem?_cons_succ, List.getElem?_cons_zero]; rfl
      · kernel_rfl
      · kernel_rfl
      · kernel_rfl
      · exact fun _ _ _ h => h
      · refine Or.inl ⟨by rfl, ?_⟩
        intro w' hSw
        (try dsimp only at hSw)
        go_simp
        all_goals (with_reducible rfl)
      · assumption
      try simp only [Act.put, List.setIfInBounds_toArray, List.set_cons_zero, List.set_cons_succ]
      refine wpAnyH_take (i := 10) (oi := ?_) (v := ?_) ?_ ?_ ?_ ?_ ?_ ?_ ?_ ?_
      rotate_left 2
      · simp only [List.getElem?_toArray, List.getElem?_cons_succ, List.getElem?_cons_zero]; rfl
      · kernel_rfl
      · kernel_rfl
      · kernel_rfl
      · exact fun _ _ _ h => h
      · refine Or.inl ⟨by rfl, ?_⟩
        intro w' hSw
        (try dsimp only at hSw)
        go_simp
        all_goals (with_reducible rfl)
      · assumption
      try simp only [Act.put, List.setIfInBounds_toArray, List.set_cons_zero, List.set_cons_succ]
      refine wpAnyH_take (i := 11) (oi := ?_) (v := ?_) ?_ ?_ ?_ ?_ ?_ ?_ ?_ ?_
      rotate_left 2
      · simp only [List.getElem?_toArray, List.getElem?_cons_succ, List.getElem?_cons_zero]; rfl
      · kernel_rfl
      · kernel_rfl
      · kernel_rfl
      · exact fun _ _ _ h => h
      · refine Or.inl ⟨by rfl, ?_⟩
        intro w' hSw
        (try dsimp only at hSw)
        go_simp
        all_goals (with_reducible rfl)
      · assumption
      try simp only [Act.put, List.setIfInBounds_toArray, List.set_cons_zero, List.set_cons_succ]
      refine wpAnyH_take (i := 12) (oi := ?_) (v := ?_) ?_ ?_ ?_ ?_ ?_ ?_ ?_ ?_
      rotate_left 2
      · simp only [List.getElem?_toArray, List.getElem?_cons_succ, List.getElem?_cons_zero]; rfl
      · kernel_rfl
      · kernel_rfl
      · kernel_rfl
      · exact fun _ _ _ h => h
      · refine Or.inl ⟨by rfl, ?_⟩
        intro w' hSw
        (try dsimp only at hSw)
        go_simp
        all_goals (with_reducible rfl)
      · assumption
      try simp only [Act.put, List.setIfInBounds_toArray, List.set_cons_zero, List.set_cons_succ]
      refine wpAnyH_take (i := 13) (oi := ?_) (v := ?_) ?_ ?_ ?_ ?_ ?_ ?_ ?_ ?_
      rotate_left 2
      · simp only [List.getElem?_toArray, List.getElem?_cons_succ, List.getElem?_cons_zero]; rfl
      · kernel_rfl
      · kernel_rfl
      · kernel_rfl
      · exact fun _ _ _ h => h
      · refine Or.inl ⟨by rfl, ?_⟩
        intro w' hSw
        (try dsimp only at hSw)
        go_simp
        all_goals (with_reducible rfl)
      · assumption
      try simp only [Act.put, List.setIfInBounds_toArray, List.set_cons_zero, List.set_cons_succ]
      refine wpAnyH_ready (rs := [7]) (by kernel_rfl) (by simp) ?_
      refine AllReadyH.cons (o := ?_) ?_ ?_ ?_
      rotate_left 1
      · simp only [List.getElem?_toArray, List.getElem?_cons_succ, List.getElem?_cons_zero]; rfl
      rotate_left 1
      · exact AllReadyH.nil
      intro K hK
      go_simp
      ((with_reducible refine CP.out.mono ?_); rintro e w7 ⟨v7, rfl, o7, f7⟩; have O7 := Lib.hid o7; have F7 := Lib.hid (F6d.out.trans f7); have R7 := Lib.hid (R6d.out.trans f7); clear o7 f7)
      refine hK.out _ _ (SS.out _ R7.out) (fun hHeld => ?_)
      clear hK K
      try simp only [Act.put, List.setIfInBounds_toArray, List.set_cons_zero, List.set_cons_succ]
      refine wpAnyH_ready (rs := [14]) (by kernel_rfl) (by simp) ?_
      refine AllReadyH.cons (o := ?_) ?_ ?_ ?_
      rotate_left 1
      · simp only [List.getElem?_toArray, List.getElem?_cons_succ, List.getElem?_cons_zero]; rfl
      rotate_left 1
      · exact AllReadyH.nil
      intro K hK
      go_simp
      ((with_reducible refine (put_v w.heap.size v7 _ ce HCE.out (by have := HL6.out; rw [List.length_append, be_length]; omega) _ O7.out F7.out.size).mono ?_); rintro e w8 ⟨v8, rfl, o8, f8⟩; have O8 := Lib.hid o8; have F8 := Lib.hid (F7.out.trans f8); have R8 := Lib.hid (R7.out.trans f8); clear o8 f8)
      refine hK.out _ _ (SS.out _ R8.out) (fun hHeld => ?_)
      clear hK K
      try simp only [Act.put, List.setIfInBounds_toArray, List.set_cons_zero, List.set_cons_succ]
      refine wpAnyH_take (i := 15) (oi := ?_) (v := ?_) ?_ ?_ ?_ ?_ ?_ ?_ ?_ ?_
      rotate_left 2
      · simp only [List.getElem?_toArray, List.getElem?_cons_succ, List.getElem?_cons_zero]; rfl
      · kernel_rfl
      · kernel_rfl
      · kernel_rfl
      · exact fun _ _ _ h => h
      · refine Or.inl ⟨by rfl, ?_⟩
        intro w' hSw
        (try dsimp only at hSw)
        go_simp
        all_goals (with_reducible rfl)
      · assumption
      try simp only [Act.put, List.setIfInBounds_toArray, List.set_cons_zero, List.set_cons_succ]
      refine wpAnyH_done (by kernel_rfl) ?_ _
      clear hHeld c0 c4
      go_wp2
      go_roundg (n - (i + 1))
      case measure => have := HK.out; omega
      case rel => exact ⟨i + 1, by omega, by omega, by go_num, by rw [HNX.out, ← List.append_assoc, ← HZZ.out]; exact O8.out, F8.out⟩
    · have hie : i = n := by omega
      subst hie
      have HTP := Lib.hid (show [132, rule, (i : Int)] ++ flat (zs (ls.take i)) = topZ rule (zs ls) from by
        rw [List.take_of_length_le (by rw [HL.out]; exact Nat.le_refl _)]
        unfold topZ
        rw [zs_length, HL.out]
        rfl)
      have HBL := Lib.hid (hf.below (Nat.le_refl _))
      have OZ := HOW.out
      rw [HTP.out] at OZ
      obtain ⟨g5, c5, rfl, r5, _⟩ := own_rdn OZ (top_byt HRL.out (by rw [zs_length, HL.out]; omega) HOZ.out) (3 + sumL (zs ls)) (top_length _ _) (by omega)
      have R5 := Lib.hid r5
      have HS := Lib.hid (show 3 + sumL (zs ls) < 65536 from by
        have := flat_len HOZ.out
        rw [flat_sum, zs_length, HL.out] at this
        omega)
      clear hf OZ r5
      go_wp2_with (go_at_call 38; ((with_reducible refine (rwhole_any _ _ _ _ HS.out _ R5.out).mono ?_); rintro e w5 ⟨v5, rfl, o5, b5⟩; have O5 := Lib.hid o5; have BL5 := Lib.hid (HBL.out.trans (b5.mono HBL.out.size)); clear o5 b5))
      go_ret
      exact ⟨v5, rfl, O5.out.more HBL.out.size, BL5.out⟩
end Go.Proofs.Ytdhdheakhcddbaa
