/- The laws of layer 13 (frame), walked: lists come back. -/
import Derived.Test.YtdhdheakhcddbaaFbA
namespace Go.Proofs.Ytdhdheakhcddbaa
set_option linter.unusedSimpArgs false
set_option linter.unusedVariables false
open Go.ChangeShapes Go.WideShapes Go.ChangeAt Go.RowKit Go.Deep
theorem zs_inj : ∀ {l m : List CV}, zs l = zs m → l = m
  | [], [], _ => rfl
  | [], _ :: _, h => by simp [zs] at h
  | _ :: _, [], h => by simp [zs] at h
  | a :: l, b :: m, h => by
    have h' : a.z :: zs l = b.z :: zs m := h
    injection h' with h1 h2
    rw [zs_inj h2]
    obtain ⟨s, n, e⟩ := a
    obtain ⟨s', n', e'⟩ := b
    simp only [CV.z, Cnt.mk.injEq] at h1
    obtain ⟨g1, rfl, rfl⟩ := h1
    rw [nums_inj g1]
theorem cv_equal (s : ByteArray) (n e : Int) (w : World) : (Op.equalIn 10000 51 (.agg (cvC s n e)) (.agg (cvC s n e))).run Try.prog w = .ok true w := by
  have hS : Try.prog.underlying 51 = some (.struct (Try.prog.fieldsOf 51)) := by kernel_rfl
  have hp : Try.prog.stoodInHeld 51 = false := by kernel_rfl
  rw [show (10000 : Nat) = 9999 + 1 from rfl, run_equalIn_agg w 9999 51 _ _ hS hp]
  simp only [Program.fieldsOf, Try.underlying51]
  go_simp
/-- the facts of one row of a slice of keys. -/
theorem CvAt.row {w : World} {A : Option Addr} {c : Nat} {ls : List CV} (h : CvAt w A c ls) {i : Nat} (hi : i < ls.length) : ∃ g off, A = some ⟨g, off, none⟩ ∧ g < w.heap.size ∧ w.cell? ⟨g, off + i * 3, none⟩ = some (.string (ls[i]).s) ∧ w.cell? ⟨g, off + i * 3 + 1, none⟩ = some (.int .i64 (ls[i]).n) ∧ w.cell? ⟨g, off + i * 3 + 2, none⟩ = some (.int .i64 (ls[i]).e) := by
  obtain ⟨g, off, rfl, hlt, hc⟩ := h.at_ (by omega)
  exact ⟨g, off, rfl, hlt, hc i hi 0 (by omega), hc i hi 1 (by omega), hc i hi 2 (by omega)⟩
set_option maxHeartbeats 32000000 in
set_option maxRecDepth 100000 in
theorem lists_law (w : World) (rule : Int) (A : Option Addr) (n c : Nat) (ls : List CV) (k : Int) (_hr : -9223372036854775808 ≤ rule ∧ rule ≤ 9223372036854775807) (hl : ls.length = n) (ha : CvAt w A c ls) (hok : ∀ a ∈ ls, a.okV) (_hk : -9223372036854775808 ≤ k ∧ k ≤ 9223372036854775807) :
    Calls Try.prog 6 #[.int .i64 rule, .slice A n c, .int .i64 k] w fun e w' => e = .returned (.bool true) ∧ Below w.heap.size w w' := by
  have hcp := ha.cap
  rw [hl] at hcp
  have hmx := ha.max
  unfold maxLen at hmx
  by_cases hn : (64 : Int) < (n : Int)
  · clear ha hok
    go_enter Try.func6, Try.ntmps6
    go_wp2_with (go_at_call 12; refine (fit_any _).mono ?_; rintro e w1 ⟨rfl, b1⟩; have B1 := Lib.hid b1; clear b1)
    go_ret
    exact ⟨rfl, B1.out⟩
  obtain ⟨ru, hru⟩ : ∃ x, x = rule % 256 := ⟨_, rfl⟩
  have er1 : bits .and .i64 rule 255 = ru := by rw [hru]; exact i64_mask8 rule
  have HRU := Lib.hid (show 0 ≤ ru ∧ ru ≤ 255 from by omega)
  obtain ⟨kk, hkk⟩ : ∃ x, x = k % 256 := ⟨_, rfl⟩
  have ek1 : bits .and .i64 k 255 = kk := by rw [hkk]; exact i64_mask8 k
  have HKK := Lib.hid (show 0 ≤ kk ∧ kk ≤ 255 from by omega)
  have HL := Lib.hid hl
  have HA := Lib.hid ha
  have HOK := Lib.hid hok
  have HN := Lib.hid (show n ≤ 64 from by omega)
  clear hru hkk hl ha hok
  go_enter Try.func6, Try.ntmps6
  go_upto_region 6 with (go_at_call 12; refine (fit_any _).mono ?_; rintro e w1 ⟨rfl, b1⟩; have B1 := Lib.hid b1; clear b1)
  go_loopg [21] n (fun kx s21 wr => ∃ i : Nat, i ≤ n ∧ kx = n - i ∧ s21 = .int .i64 (i : Int) ∧ (∀ a ∈ ls.take i, a.s.size ≤ 64) ∧ Below w.heap.size w wr)
  case atStart => exact ⟨0, by omega, by omega, rfl, by simp, B1.out⟩
  case round =>
    obtain ⟨i, hi, hkx, rfl, hsz, hb⟩ := hrel
    have HK := Lib.hid hkx
    have HSZ := Lib.hid hsz
    have HB := Lib.hid hb
    clear hkx hsz hb
    by_cases hin : i < n
    · have hil : i < ls.length := by rw [HL.out]; exact hin
      have HNX := Lib.hid (show ls.take (i + 1) = ls.take i ++ [ls[i]] from List.take_succ_eq_append_getElem hil)
      obtain ⟨g, off, rfl, hlt, c0, c1, c2⟩ := (HA.out.below HB.out).row hil
      obtain ⟨a, haa⟩ : ∃ a, a = ls[i] := ⟨_, rfl⟩
      rw [← haa] at c0 c1 c2 HNX
      obtain ⟨s, cn, ce⟩ := a
      simp only at c0 c1 c2
      clear haa
      by_cases hs : (64 : Int) < (s.size : Int)
      · go_wp2
        go_ret
        exact ⟨rfl, HB.out.alloc HB.out.size _⟩
      · have HS := Lib.hid hs
        go_wp2
        go_roundg (n - (i + 1))
        case measure => have := HK.out; omega
        case rel =>
          refine ⟨i + 1, by omega, by omega, by go_num, ?_, HB.out.alloc HB.out.size _⟩
          intro a ha
          rw [HNX.out] at ha
          rcases List.mem_append.1 ha with h | h
          · exact HSZ.out a h
          · simp only [List.mem_singleton] at h
            rw [h]
            have := HS.out
            show s.size ≤ 64
            omega
    · have hie : i = n := by omega
      subst hie
      have hsz := HSZ.out
      rw [List.take_of_length_le (by rw [HL.out]; exact Nat.le_refl _)] at hsz
      have HS := Lib.hid hsz
      have HOZ := Lib.hid (zs_ok HOK.out hsz)
      obtain ⟨K, hK⟩ : ∃ K, K = 7 + sumL (zs ls) := ⟨_, rfl⟩
      have hsum : sumL (zs ls) ≤ 81 * i := by
        have := flat_len HOZ.out
        rwa [flat_sum, zs_length, HL.out] at this
      have HKL := Lib.hid hK
      have HSUM := Lib.hid hsum
      have CL := Lib.hid (fun (wx : World) (hx : Below w.heap.size w wx) => listed_any ru A i c ls HRU.out HL.out (by have := HN.out; omega) wx (HA.out.below hx) HOK.out HS.out)
      have CRL := Lib.hid (fun (wx : World) (hx : Below w.heap.size w wx) => rlisted_any ru A i c ls HRU.out HL.out (by have := HN.out; omega) wx (HA.out.below hx) HOK.out HS.out)
      have HTB := Lib.hid (top_byt HRU.out (by rw [zs_length, HL.out]; have := HN.out; omega) HOZ.out)
      have CR := Lib.hid (fun (A' : Option Addr) (cc : Nat) (wx : World) (h : RdI wx .u8 A' K cc (frmZ (topZ ru (zs ls)))) => read_yes A' K cc _ 4 ru 0 0 0 0 0 0 0 0 0 (zs ls) K wx (by have := HKL.out; have := HSUM.out; have := HN.out; omega) h (by rw [read_whole (said_top HOZ.out) (by rw [top_length]; have := HSUM.out; have := HN.out; omega), top_length, HKL.out]; show some (topS ru (zs ls), _) = some (topS ru (zs ls), _); rw [show 4 + (3 + sumL (zs ls)) = 7 + sumL (zs ls) by omega]))
      clear hsz hK hsum
      go_upto_region 14 with (first
        | (go_at_call 26; ((with_reducible refine (CL.out _ HB.out).mono ?_); rintro e w2 ⟨v2, rfl, o2, b2⟩; obtain ⟨g2, c2, rfl, r2, _⟩ := own_frm o2 HTB.out K (by rw [top_length, HKL.out]; omega) b2.size; have R2 := Lib.hid r2; have B2 := Lib.hid (HB.out.trans (b2.mono HB.out.size)); clear o2 b2 r2))
        | (go_at_call 21; ((with_reducible refine (CR.out _ _ _ R2.out).mono ?_); rintro e w3 ⟨LA, LN, LC, rfl, hls, b3⟩; have HLS := Lib.hid hls; have R3 := Lib.hid (R2.out.below b3); have B3 := Lib.hid (B2.out.trans (b3.mono B2.out.size)); clear b3 hls)))
      obtain ⟨ls', hz, hrow⟩ := HLS.out
      have hlse := zs_inj hz
      subst hlse
      obtain ⟨A', cap', hsl, hcv3⟩ := cv_at hrow
      injection hsl with e1 e2 e3
      subst e1 e3
      rw [HL.out] at e2
      have e2' := e2.symm
      subst e2'
      obtain ⟨w4, hw4, hbk, hbl, hsz⟩ := box_new w3 (sdC 4 ru 0 0 0 0 0 0 0 0 (.slice LA i LC) 0) 44
      change Code.wp _ _ _ _ (w3.alloc (.cells (sdC 4 ru 0 0 0 0 0 0 0 0 (.slice LA i LC) 0) 44))
      rw [hw4]
      obtain ⟨b6, hb6⟩ : ∃ b6, b6 = w3.heap.size := ⟨_, rfl⟩
      rw [← hb6] at hbk ⊢
      obtain ⟨s5, hs5⟩ : ∃ s, s = strOfNums (frmZ (topZ ru (zs ls'))) := ⟨_, rfl⟩
      have SS := Lib.hid (fun (wx : World) (hx : Below w4.heap.size w4 wx) => show (∀ j, wx.cell? ⟨b6, j, none⟩ = (sdC 4 ru 0 0 0 0 0 0 0 0 (.slice LA i LC) 0)[j]?) ∧ (convert 25 9 (.slice (some ⟨g2, 0, none⟩) K c2)).run Try.prog wx = .ok (.string s5) wx from by
        refine ⟨(hbk.keep hx).rd, ?_⟩
        rw [hs5]; exact conv_str (P := Try.prog) (by rfl) (by rfl) (by rfl) (R3.out.below (hbl.trans (hx.mono hbl.size))))
      have B4 := Lib.hid (B3.out.trans (hbl.mono B3.out.size))
      have CV4 := Lib.hid (hcv3.below hbl)
      have BK4 := Lib.hid hbk
      have BD := Lib.hid (show Below w4.heap.size w4 w4.drew from below_draws (Below.refl _ _) 1)
      have CRL2 := Lib.hid (fun (wx : World) (hx : Below w4.heap.size w4 wx) => show Calls Try.prog 27 #[.int .i64 ru, .slice A i c] wx (fun e w' => (∃ g' c', e = .returned (.slice (some ⟨g', 0, none⟩) K c') ∧ (convert 25 9 (.slice (some ⟨g', 0, none⟩) K c')).run Try.prog w' = .ok (.string s5) w') ∧ Below wx.heap.size wx w') from (CRL.out wx (B4.out.trans (hx.mono B4.out.size))).mono (fun e w' hh => by
        obtain ⟨v5, rfl, o5, b5⟩ := hh
        obtain ⟨g', c', rfl, r5, _⟩ := own_frm o5 HTB.out K (by rw [top_length, HKL.out]; omega) b5.size
        rw [hs5]
        exact ⟨⟨g', c', rfl, conv_str (P := Try.prog) (by rfl) (by rfl) (by rfl) r5⟩, b5⟩))
      obtain ⟨z1, z2⟩ := SS.out w4.drew BD.out
      clear hw4 hbk hbl hsz hb6 hs5 hrow hcv3 hz
      have y0 := And.intro z1 z2
      refine wp_region_held_drew (S := fun w' => (∀ j, w'.cell? ⟨b6, j, none⟩ = (sdC 4 ru 0 0 0 0 0 0 0 0 (.slice LA i LC) 0)[j]?) ∧ (convert 25 9 (.slice (some ⟨g2, 0, none⟩) K c2)).run Try.prog w' = .ok (.string s5) w') (by kernel_rfl) y0 (fun hHeld => ?_)
      clear y0 z1 z2
      refine wpAnyH_take (i := 0) (oi := ?_) (v := ?_) ?_ ?_ ?_ ?_ ?_ ?_ ?_ ?_
      rotate_left 2
      · simp only [List.getElem?_toArray, List.getElem?_cons_succ, List.getElem?_cons_zero]; rfl
      · kernel_rfl
      · kernel_rfl
      · kernel_rfl
      · exact fun _ _ _ h => h
      · refine Or.inl ⟨by rfl, ?_⟩
        intro w' hSw
        (try dsimp only at hSw)
        go_simp
        all_goals (with_reducible rfl)
      · assumption
      try simp only [Act.put, List.setIfInBounds_toArray, List.set_cons_zero, List.set_cons_succ]
      refine wpAnyH_take (i := 1) (oi := ?_) (v := ?_) ?_ ?_ ?_ ?_ ?_ ?_ ?_ ?_
      rotate_left 2
      · simp only [List.getElem?_toArray, List.getElem?_cons_succ, List.getElem?_cons_zero]; rfl
      · kernel_rfl
      · kernel_rfl
      · kernel_rfl
      · exact fun _ _ _ h => h
      · refine Or.inl ⟨by rfl, ?_⟩
        intro w' hSw
        (try dsimp only at hSw)
        go_simp
        all_goals (with_reducible rfl)
      · assumption
      try simp only [Act.put, List.setIfInBounds_toArray, List.set_cons_zero, List.set_cons_succ]
      refine wpAnyH_take (i := 2) (oi := ?_) (v := ?_) ?_ ?_ ?_ ?_ ?_ ?_ ?_ ?_
      rotate_left 2
      · simp only [List.getElem?_toArray, List.getElem?_cons_succ, List.getElem?_cons_zero]; rfl
      · kernel_rfl
      · kernel_rfl
      · kernel_rfl
      · exact fun _ _ _ h => h
      · refine Or.inl ⟨by rfl, ?_⟩
        intro w' hSw
        (try dsimp only at hSw)
        go_simp
        all_goals (with_reducible rfl)
      · assumption
      try simp only [Act.put, List.setIfInBounds_toArray, List.set_cons_zero, List.set_cons_succ]
      refine wpAnyH_take (i := 3) (oi := ?_) (v := ?_) ?_ ?_ ?_ ?_ ?_ ?_ ?_ ?_
      rotate_left 2
      · simp only [List.getElem?_toArray, List.getElem?_cons_succ, List.getElem?_cons_zero]; rfl
      · kernel_rfl
      · kernel_rfl
      · kernel_rfl
      · exact fun _ _ _ h => h
      · refine Or.inl ⟨by rfl, ?_⟩
        intro w' hSw
        (try dsimp only at hSw)
        go_simp
        all_goals (with_reducible rfl)
      · assumption
      try simp only [Act.put, List.setIfInBounds_toArray, List.set_cons_zero, List.set_cons_succ]
      refine wpAnyH_ready (rs := [4]) (by kernel_rfl) (by simp) ?_
      refine AllReadyH.cons (o := ?_) ?_ ?_ ?_
      rotate_left 1
      · simp only [List.getElem?_toArray, List.getElem?_cons_succ, List.getElem?_cons_zero]; rfl
      rotate_left 1
      · exact AllReadyH.nil
      intro K hK
      go_simp
      ((with_reducible refine (CRL2.out _ BD.out).mono ?_); rintro e wb ⟨⟨g', c', rfl, hcv⟩, bb⟩; have BN := Lib.hid (BD.out.trans (bb.mono BD.out.size)); clear bb)
      refine hK.out _ _ (SS.out _ BN.out) (fun hHeld => ?_)
      clear hK K
      try simp only [Act.put, List.setIfInBounds_toArray, List.set_cons_zero, List.set_cons_succ]
      refine wpAnyH_ready (rs := [5]) (by kernel_rfl) (by simp) ?_
      refine AllReadyH.cons (o := ?_) ?_ ?_ ?_
      rotate_left 1
      · simp only [List.getElem?_toArray, List.getElem?_cons_succ, List.getElem?_cons_zero]; rfl
      rotate_left 1
      · exact AllReadyH.nil
      intro K hK
      go_simp
      skip
      refine hK.out _ _ (SS.out _ BN.out) (fun hHeld => ?_)
      clear hK K
      try simp only [Act.put, List.setIfInBounds_toArray, List.set_cons_zero, List.set_cons_succ]
      refine wpAnyH_take (i := 6) (oi := ?_) (v := ?_) ?_ ?_ ?_ ?_ ?_ ?_ ?_ ?_
      rotate_left 2
      · simp only [List.getElem?_toArray, List.getElem?_cons_succ, List.getElem?_cons_zero]; rfl
      · kernel_rfl
      · kernel_rfl
      · kernel_rfl
      · exact fun _ _ _ h => h
      · refine Or.inl ⟨by rfl, ?_⟩
        intro w' hSw
        (try dsimp only at hSw)
        go_simp
        all_goals (with_reducible rfl)
      · assumption
      try simp only [Act.put, List.setIfInBounds_toArray, List.set_cons_zero, List.set_cons_succ]
      refine wpAnyH_take (i := 7) (oi := ?_) (v := ?_) ?_ ?_ ?_ ?_ ?_ ?_ ?_ ?_
      rotate_left 2
      · simp only [List.getElem?_toArray, List.getElem?_cons_succ, List.getElem?_cons_zero]; rfl
      · kernel_rfl
      · kernel_rfl
      · kernel_rfl
      · exact fun _ _ _ h => h
      · refine Or.inl ⟨by rfl, ?_⟩
        intro w' hSw
        (try dsimp only at hSw)
        go_simp
        all_goals (with_reducible rfl)
      · assumption
      try simp only [Act.put, List.setIfInBounds_toArray, List.set_cons_zero, List.set_cons_succ]
      refine wpAnyH_take (i := 8) (oi := ?_) (v := ?_) ?_ ?_ ?_ ?_ ?_ ?_ ?_ ?_
      rotate_left 2
      · simp only [List.getElem?_toArray, List.getElem?_cons_succ, List.getElem?_cons_zero]; rfl
      · kernel_rfl
      · kernel_rfl
      · kernel_rfl
      · exact fun _ _ _ h => h
      · refine Or.inl ⟨by rfl, ?_⟩
        intro w' hSw
        (try dsimp only at hSw)
        go_simp
        all_goals (with_reducible rfl)
      · assumption
      try simp only [Act.put, List.setIfInBounds_toArray, List.set_cons_zero, List.set_cons_succ]
      refine wpAnyH_take (i := 9) (oi := ?_) (v := ?_) ?_ ?_ ?_ ?_ ?_ ?_ ?_ ?_
      rotate_left 2
      · simp only [List.getElem?_toArray, List.getElem?_cons_succ, List.getElem?_cons_zero]; rfl
      · kernel_rfl
      · kernel_rfl
      · kernel_rfl
      · exact fun _ _ _ h => h
      · refine Or.inl ⟨by rfl, ?_⟩
        intro w' hSw
        (try dsimp only at hSw)
        go_simp
        all_goals (with_reducible rfl)
      · assumption
      try simp only [Act.put, List.setIfInBounds_toArray, List.set_cons_zero, List.set_cons_succ]
      refine wpAnyH_take (i := 10) (oi := ?_) (v := ?_) ?_ ?_ ?_ ?_ ?_ ?_ ?_ ?_
      rotate_left 2
      · simp only [List.getElem?_toArray, List.getElem?_cons_succ, List.getElem?_cons_zero]; rfl
      · kernel_rfl
      · kernel_rfl
      · kernel_rfl
      · exact fun _ _ _ h => h
      · refine Or.inl ⟨by rfl, ?_⟩
        intro w' hSw
        (try dsimp only at hSw)
        go_simp
        all_goals (with_reducible rfl)
      · assumption
      try simp only [Act.put, List.setIfInBounds_toArray, List.set_cons_zero, List.set_cons_succ]
      refine wpAnyH_take (i := 11) (oi := ?_) (v := ?_) ?_ ?_ ?_ ?_ ?_ ?_ ?_ ?_
      rotate_left 2
      · simp only [List.getElem?_toArray, List.getElem?_cons_succ, List.getElem?_cons_zero]; rfl
      · kernel_rfl
      · kernel_rfl
      · kernel_rfl
      · exact fun _ _ _ h => h
      · refine Or.inl ⟨by rfl, ?_⟩
        intro w' hSw
        (try dsimp only at hSw)
        go_simp
        all_goals (with_reducible rfl)
      · assumption
      try simp only [Act.put, List.setIfInBounds_toArray, List.set_cons_zero, List.set_cons_succ]
      refine wpAnyH_take (i := 12) (oi := ?_) (v := ?_) ?_ ?_ ?_ ?_ ?_ ?_ ?_ ?_
      rotate_left 2
      · simp only [List.getElem?_toArray, List.getElem?_cons_succ, List.getElem?_cons_zero]; rfl
      · kernel_rfl
      · kernel_rfl
      · kernel_rfl
      · exact fun _ _ _ h => h
      · refine Or.inl ⟨by rfl, ?_⟩
        intro w' hSw
        (try dsimp only at hSw)
        go_simp
        all_goals (with_reducible rfl)
      · assumption
      try simp only [Act.put, List.setIfInBounds_toArray, List.set_cons_zero, List.set_cons_succ]
      refine wpAnyH_take (i := 13) (oi := ?_) (v := ?_) ?_ ?_ ?_ ?_ ?_ ?_ ?_ ?_
      rotate_left 2
      · simp only [List.getElem?_toArray, List.getElem?_cons_succ, List.getElem?_cons_zero]; rfl
      · kernel_rfl
      · kernel_rfl
      · kernel_rfl
      · exact fun _ _ _ h => h
      · refine Or.inl ⟨by rfl, ?_⟩
        intro w' hSw
        (try dsimp only at hSw)
        go_simp
        all_goals (with_reducible rfl)
      · assumption
      try simp only [Act.put, List.setIfInBounds_toArray, List.set_cons_zero, List.set_cons_succ]
      refine wpAnyH_take (i := 14) (oi := ?_) (v := ?_) ?_ ?_ ?_ ?_ ?_ ?_ ?_ ?_
      rotate_left 2
      · simp only [List.getElem?_toArray, List.getElem?_cons_succ, List.getElem?_cons_zero]; rfl
      · kernel_rfl
      · kernel_rfl
      · kernel_rfl
      · exact fun _ _ _ h => h
      · refine Or.inl ⟨by rfl, ?_⟩
        intro w' hSw
        (try dsimp only at hSw)
        go_simp
        all_goals (with_reducible rfl)
      · assumption
      try simp only [Act.put, List.setIfInBounds_toArray, List.set_cons_zero, List.set_cons_succ]
      refine wpAnyH_take (i := 15) (oi := ?_) (v := ?_) ?_ ?_ ?_ ?_ ?_ ?_ ?_ ?_
      rotate_left 2
      · simp only [List.getElem?_toArray, List.getElem?_cons_succ, List.getElem?_cons_zero]; rfl
      · kernel_rfl
      · kernel_rfl
      · kernel_rfl
      · exact fun _ _ _ h => h
      · refine Or.inl ⟨by rfl, ?_⟩
        intro w' hSw
        (try dsimp only at hSw)
        go_simp
        all_goals (with_reducible rfl)
      · assumption
      try simp only [Act.put, List.setIfInBounds_toArray, List.set_cons_zero, List.set_cons_succ]
      refine wpAnyH_take (i := 16) (oi := ?_) (v := ?_) ?_ ?_ ?_ ?_ ?_ ?_ ?_ ?_
      rotate_left 2
      · simp only [List.getElem?_toArray, List.getElem?_cons_succ, List.getElem?_cons_zero]; rfl
      · kernel_rfl
      · kernel_rfl
      · kernel_rfl
      · exact fun _ _ _ h => h
      · refine Or.inl ⟨by rfl, ?_⟩
        intro w' hSw
        (try dsimp only at hSw)
        go_simp
        all_goals (with_reducible rfl)
      · assumption
      try simp only [Act.put, List.setIfInBounds_toArray, List.set_cons_zero, List.set_cons_succ]
      refine wpAnyH_take (i := 17) (oi := ?_) (v := ?_) ?_ ?_ ?_ ?_ ?_ ?_ ?_ ?_
      rotate_left 2
      · simp only [List.getElem?_toArray, List.getElem?_cons_succ, List.getElem?_cons_zero]; rfl
      · kernel_rfl
      · kernel_rfl
      · kernel_rfl
      · exact fun _ _ _ h => h
      · refine Or.inl ⟨by rfl, ?_⟩
        intro w' hSw
        (try dsimp only at hSw)
        go_simp
        all_goals (with_reducible rfl)
      · assumption
      try simp only [Act.put, List.setIfInBounds_toArray, List.set_cons_zero, List.set_cons_succ]
      refine wpAnyH_take (i := 18) (oi := ?_) (v := ?_) ?_ ?_ ?_ ?_ ?_ ?_ ?_ ?_
      rotate_left 2
      · simp only [List.getElem?_toArray, List.getElem?_cons_succ, List.getElem?_cons_zero]; rfl
      · kernel_rfl
      · kernel_rfl
      · kernel_rfl
      · exact fun _ _ _ h => h
      · refine Or.inl ⟨by rfl, ?_⟩
        intro w' hSw
        (try dsimp only at hSw)
        go_simp
        all_goals (with_reducible rfl)
      · assumption
      try simp only [Act.put, List.setIfInBounds_toArray, List.set_cons_zero, List.set_cons_succ]
      refine wpAnyH_take (i := 19) (oi := ?_) (v := ?_) ?_ ?_ ?_ ?_ ?_ ?_ ?_ ?_
      rotate_left 2
      · simp only [List.getElem?_toArray, List.getElem?_cons_succ, List.getElem?_cons_zero]; rfl
      · kernel_rfl
      · kernel_rfl
      · kernel_rfl
      · exact fun _ _ _ h => h
      · refine Or.inl ⟨by rfl, ?_⟩
        intro w' hSw
        (try dsimp only at hSw)
        go_simp
        all_goals (with_reducible rfl)
      · assumption
      try simp only [Act.put, List.setIfInBounds_toArray, List.set_cons_zero, List.set_cons_succ]
      refine wpAnyH_take (i := 20) (oi := ?_) (v := ?_) ?_ ?_ ?_ ?_ ?_ ?_ ?_ ?_
      rotate_left 2
      · simp only [List.getElem?_toArray, List.getElem?_cons_succ, List.getElem?_cons_zero]; rfl
      · kernel_rfl
      · kernel_rfl
      · kernel_rfl
      · exact fun _ _ _ h => h
      · refine Or.inl ⟨by rfl, ?_⟩
        intro w' hSw
        (try dsimp only at hSw)
        go_simp
        all_goals (with_reducible rfl)
      · assumption
      try simp only [Act.put, List.setIfInBounds_toArray, List.set_cons_zero, List.set_cons_succ]
      refine wpAnyH_take (i := 21) (oi := ?_) (v := ?_) ?_ ?_ ?_ ?_ ?_ ?_ ?_ ?_
      rotate_left 2
      · simp only [List.getElem?_toArray, List.getElem?_cons_succ, List.getElem?_cons_zero]; rfl
      · kernel_rfl
      · kernel_rfl
      · kernel_rfl
      · exact fun _ _ _ h => h
      · refine Or.inl ⟨by rfl, ?_⟩
        intro w' hSw
        (try dsimp only at hSw)
        go_simp
        all_goals (with_reducible rfl)
      · assumption
      try simp only [Act.put, List.setIfInBounds_toArray, List.set_cons_zero, List.set_cons_succ]
      refine wpAnyH_take (i := 22) (oi := ?_) (v := ?_) ?_ ?_ ?_ ?_ ?_ ?_ ?_ ?_
      rotate_left 2
      · simp only [List.getElem?_toArray, List.getElem?_cons_succ, List.getElem?_cons_zero]; rfl
      · kernel_rfl
      · kernel_rfl
      · kernel_rfl
      · exact fun _ _ _ h => h
      · refine Or.inl ⟨by rfl, ?_⟩
        intro w' hSw
        (try dsimp only at hSw)
        go_simp
        all_goals (with_reducible rfl)
      · assumption
      try simp only [Act.put, List.setIfInBounds_toArray, List.set_cons_zero, List.set_cons_succ]
      refine wpAnyH_take (i := 23) (oi := ?_) (v := ?_) ?_ ?_ ?_ ?_ ?_ ?_ ?_ ?_
      rotate_left 2
      · simp only [List.getElem?_toArray, List.getElem?_cons_succ, List.getElem?_cons_zero]; rfl
      · kernel_rfl
      · kernel_rfl
      · kernel_rfl
      · exact fun _ _ _ h => h
      · refine Or.inl ⟨by rfl, ?_⟩
        intro w' hSw
        (try dsimp only at hSw)
        go_simp
        all_goals (with_reducible rfl)
      · assumption
      try simp only [Act.put, List.setIfInBounds_toArray, List.set_cons_zero, List.set_cons_succ]
      refine wpAnyH_take (i := 24) (oi := ?_) (v := ?_) ?_ ?_ ?_ ?_ ?_ ?_ ?_ ?_
      rotate_left 2
      · simp only [List.getElem?_toArray, List.getElem?_cons_succ, List.getElem?_cons_zero]; rfl
      · kernel_rfl
      · kernel_rfl
      · kernel_rfl
      · exact fun _ _ _ h => h
      · refine Or.inl ⟨by rfl, ?_⟩
        intro w' hSw
        (try dsimp only at hSw)
        go_simp
        all_goals (with_reducible rfl)
      · assumption
      try simp only [Act.put, List.setIfInBounds_toArray, List.set_cons_zero, List.set_cons_succ]
      refine wpAnyH_take (i := 25) (oi := ?_) (v := ?_) ?_ ?_ ?_ ?_ ?_ ?_ ?_ ?_
      rotate_left 2
      · simp only [List.getElem?_toArray, List.getElem?_cons_succ, List.getElem?_cons_zero]; rfl
      · kernel_rfl
      · kernel_rfl
      · kernel_rfl
      · exact fun _ _ _ h => h
      · refine Or.inl ⟨by rfl, ?_⟩
        intro w' hSw
        (try dsimp only at hSw)
        go_simp
        all_goals (with_reducible rfl)
      · assumption
      try simp only [Act.put, List.setIfInBounds_toArray, List.set_cons_zero, List.set_cons_succ]
      refine wpAnyH_take (i := 26) (oi := ?_) (v := ?_) ?_ ?_ ?_ ?_ ?_ ?_ ?_ ?_
      rotate_left 2
      · simp only [List.getElem?_toArray, List.getElem?_cons_succ, List.getElem?_cons_zero]; rfl
      · kernel_rfl
      · kernel_rfl
      · kernel_rfl
      · exact fun _ _ _ h => h
      · refine Or.inl ⟨by rfl, ?_⟩
        intro w' hSw
        (try dsimp only at hSw)
        go_simp
        all_goals (with_reducible rfl)
      · assumption
      try simp only [Act.put, List.setIfInBounds_toArray, List.set_cons_zero, List.set_cons_succ]
      refine wpAnyH_take (i := 27) (oi := ?_) (v := ?_) ?_ ?_ ?_ ?_ ?_ ?_ ?_ ?_
      rotate_left 2
      · simp only [List.getElem?_toArray, List.getElem?_cons_succ, List.getElem?_cons_zero]; rfl
      · kernel_rfl
      · kernel_rfl
      · kernel_rfl
      · exact fun _ _ _ h => h
      · refine Or.inl ⟨by rfl, ?_⟩
        intro w' hSw
        (try dsimp only at hSw)
        go_simp
        all_goals (with_reducible rfl)
      · assumption
      try simp only [Act.put, List.setIfInBounds_toArray, List.set_cons_zero, List.set_cons_succ]
      refine wpAnyH_take (i := 28) (oi := ?_) (v := ?_) ?_ ?_ ?_ ?_ ?_ ?_ ?_ ?_
      rotate_left 2
      · simp only [List.getElem?_toArray, List.getElem?_cons_succ, List.getElem?_cons_zero]; rfl
      · kernel_rfl
      · kernel_rfl
      · kernel_rfl
      · exact fun _ _ _ h => h
      · refine Or.inl ⟨by rfl, ?_⟩
        intro w' hSw
        (try dsimp only at hSw)
        go_simp
        all_goals (with_reducible rfl)
      · assumption
      try simp only [Act.put, List.setIfInBounds_toArray, List.set_cons_zero, List.set_cons_succ]
      refine wpAnyH_take (i := 29) (oi := ?_) (v := ?_) ?_ ?_ ?_ ?_ ?_ ?_ ?_ ?_
      rotate_left 2
      · simp only [List.getElem?_toArray, List.getElem?_cons_succ, List.getElem?_cons_zero]; rfl
      · kernel_rfl
      · kernel_rfl
      · kernel_rfl
      · exact fun _ _ _ h => h
      · refine Or.inl ⟨by rfl, ?_⟩
        intro w' hSw
        (try dsimp only at hSw)
        go_simp
        all_goals (with_reducible rfl)
      · assumption
      try simp only [Act.put, List.setIfInBounds_toArray, List.set_cons_zero, List.set_cons_succ]
      refine wpAnyH_take (i := 30) (oi := ?_) (v := ?_) ?_ ?_ ?_ ?_ ?_ ?_ ?_ ?_
      rotate_left 2
      · simp only [List.getElem?_toArray, List.getElem?_cons_succ, List.getElem?_cons_zero]; rfl
      · kernel_rfl
      · kernel_rfl
      · kernel_rfl
      · exact fun _ _ _ h => h
      · refine Or.inl ⟨by rfl, ?_⟩
        intro w' hSw
        (try dsimp only at hSw)
        go_simp
        all_goals (with_reducible rfl)
      · assumption
      try simp only [Act.put, List.setIfInBounds_toArray, List.set_cons_zero, List.set_cons_succ]
      refine wpAnyH_take (i := 31) (oi := ?_) (v := ?_) ?_ ?_ ?_ ?_ ?_ ?_ ?_ ?_
      rotate_left 2
      · simp only [List.getElem?_toArray, List.getElem?_cons_succ, List.getElem?_cons_zero]; rfl
      · kernel_rfl
      · kernel_rfl
      · kernel_rfl
      · exact fun _ _ _ h => h
      · refine Or.inl ⟨by rfl, ?_⟩
        intro w' hSw
        (try dsimp only at hSw)
        go_simp
        all_goals (with_reducible rfl)
      · assumption
      try simp only [Act.put, List.setIfInBounds_toArray, List.set_cons_zero, List.set_cons_succ]
      refine wpAnyH_take (i := 32) (oi := ?_) (v := ?_) ?_ ?_ ?_ ?_ ?_ ?_ ?_ ?_
      rotate_left 2
      · simp only [List.getElem?_toArray, List.getElem?_cons_succ, List.getElem?_cons_zero]; rfl
      · kernel_rfl
      · kernel_rfl
      · kernel_rfl
      · exact fun _ _ _ h => h
      · refine Or.inl ⟨by rfl, ?_⟩
        intro w' hSw
        (try dsimp only at hSw)
        go_simp
        all_goals (with_reducible rfl)
      · assumption
      try simp only [Act.put, List.setIfInBounds_toArray, List.set_cons_zero, List.set_cons_succ]
      refine wpAnyH_take (i := 33) (oi := ?_) (v := ?_) ?_ ?_ ?_ ?_ ?_ ?_ ?_ ?_
      rotate_left 2
      · simp only [List.getElem?_toArray, List.getElem?_cons_succ, List.getElem?_cons_zero]; rfl
      · kernel_rfl
      · kernel_rfl
      · kernel_rfl
      · exact fun _ _ _ h => h
      · refine Or.inl ⟨by rfl, ?_⟩
        intro w' hSw
        (try dsimp only at hSw)
        go_simp
        all_goals (with_reducible rfl)
      · assumption
      try simp only [Act.put, List.setIfInBounds_toArray, List.set_cons_zero, List.set_cons_succ]
      refine wpAnyH_take (i := 34) (oi := ?_) (v := ?_) ?_ ?_ ?_ ?_ ?_ ?_ ?_ ?_
      rotate_left 2
      · simp only [List.getElem?_toArray, List.getElem?_cons_succ, List.getElem?_cons_zero]; rfl
      · kernel_rfl
      · kernel_rfl
      · kernel_rfl
      · exact fun _ _ _ h => h
      · refine Or.inl ⟨by rfl, ?_⟩
        intro w' hSw
        (try dsimp only at hSw)
        go_simp
        all_goals (with_reducible rfl)
      · assumption
      try simp only [Act.put, List.setIfInBounds_toArray, List.set_cons_zero, List.set_cons_succ]
      refine wpAnyH_take (i := 35) (oi := ?_) (v := ?_) ?_ ?_ ?_ ?_ ?_ ?_ ?_ ?_
      rotate_left 2
      · simp only [List.getElem?_toArray, List.getElem?_cons_succ, List.getElem?_cons_zero]; rfl
      · kernel_rfl
      · kernel_rfl
      · kernel_rfl
      · exact fun _ _ _ h => h
      · refine Or.inl ⟨by rfl, ?_⟩
        intro w' hSw
        (try dsimp only at hSw)
        go_simp
        all_goals (with_reducible rfl)
      · assumption
      try simp only [Act.put, List.setIfInBounds_toArray, List.set_cons_zero, List.set_cons_succ]
      refine wpAnyH_done (by kernel_rfl) ?_ _
      have B5 := Lib.hid (B4.out.trans (BN.out.mono B4.out.size))
      have BK5 := Lib.hid (BK4.out.keep BN.out)
      have CV5 := Lib.hid (CV4.out.below BN.out)
      clear hHeld hcv
      obtain ⟨w5, hw5⟩ : ∃ w5 : World, w5 = wb := ⟨_, rfl⟩
      rw [← hw5] at B5 BK5 CV5 ⊢
      clear hw5
      have LCAP := CV5.out.cap
      rw [HL.out] at LCAP
      go_upto_region 17 with (fail)
      go_loopg [79] i (fun kx s79 wr => ∃ j : Nat, j ≤ i ∧ kx = i - j ∧ s79 = .int .i64 (j : Int) ∧ Below w5.heap.size w5 wr)
      case atStart => exact ⟨0, by omega, by omega, rfl, Below.refl _ _⟩
      case round =>
        obtain ⟨j, hj, hkx, rfl, hb⟩ := hrel
        have HKX := Lib.hid hkx
        have HBR := Lib.hid hb
        clear hkx hb
        by_cases hji : j < i
        · have hjl : j < ls'.length := by rw [HL.out]; exact hji
          obtain ⟨g, off, rfl, hlt, d0, d1, d2⟩ := (HA.out.below (B5.out.trans (HBR.out.mono B5.out.size))).row hjl
          obtain ⟨gl, ol, rfl, hlt', c0, c1, c2'⟩ := (CV5.out.below HBR.out).row hjl
          have kb := (BK5.out.keep HBR.out).rd
          obtain ⟨a, haa⟩ : ∃ a, a = ls'[j] := ⟨_, rfl⟩
          rw [← haa] at c0 c1 c2' d0 d1 d2
          obtain ⟨s, cn, ce⟩ := a
          simp only at c0 c1 c2' d0 d1 d2
          have heq := cv_equal s cn ce
          have hji' : (j : Int) < (i : Int) := by omega
          clear haa hlt hlt'
          go_upto_region 19 with (fail)
          go_quiet (fail)
          go_wp2
          go_roundg (i - (j + 1))
          case measure => have := HKX.out; omega
          case rel => exact ⟨j + 1, by omega, by omega, by go_num, below_draws HBR.out nq⟩
        · have hje : j = i := by omega
          have BF := Lib.hid (B5.out.trans (HBR.out.mono B5.out.size))
          obtain ⟨M, hM⟩ : ∃ M, M = max 1 (min kk 64) := ⟨_, rfl⟩
          have CLG := Lib.hid (fun wx => large_lists kk 64 M HKK.out (by omega) hM wx)
          have HMM := Lib.hid hM
          have hkb := HKK.out
          have hKM : ¬ M < (i : Int) → (K : Int) ≤ 7 + 81 * M := by
            intro h
            have h1 := HKL.out
            have h2 := HSUM.out
            omega
          have hKM' := Lib.hid hKM
          clear hM hKM
          obtain ⟨wq, hwq⟩ : ∃ wq : World, wq = wr := ⟨_, rfl⟩
          rw [← hwq] at BF ⊢
          clear hwq
          by_cases q1 : kk < 1
          · have e1 : M = 1 := by have := HMM.out; omega
            have f1 : (kk < 1) = True := eq_true q1
            have f2 : ((64 : Int) < 1) = False := eq_false (by omega)
            subst e1
            by_cases q2 : (1 : Int) < (i : Int)
            · clear q1
              go_wp2
              go_ret
              exact ⟨rfl, BF.out⟩
            · have q3 : (K : Int) ≤ 7 + 81 * 1 := hKM'.out q2
              have q3' : (K : Int) ≤ 88 := by omega
              clear q1
              go_wp2_with (go_at_call 25; ((with_reducible refine (CLG.out _).mono ?_); rintro e w9 ⟨rfl, b9⟩; have B9 := Lib.hid (BF.out.trans (b9.mono BF.out.size)); clear b9))
              go_ret
              exact ⟨rfl, B9.out⟩
          · have f1 : (kk < 1) = False := eq_false q1
            by_cases q4 : (64 : Int) < kk
            · have e1 : M = 64 := by have := HMM.out; omega
              have f2 : ((64 : Int) < kk) = True := eq_true q4
              subst e1
              by_cases q2 : (64 : Int) < (i : Int)
              · clear q1 q4
                go_wp2
                go_ret
                exact ⟨rfl, BF.out⟩
              · have q3 : (K : Int) ≤ 7 + 81 * 64 := hKM'.out q2
                have q3' : (K : Int) ≤ 5191 := by omega
                clear q1 q4
                go_wp2_with (go_at_call 25; ((with_reducible refine (CLG.out _).mono ?_); rintro e w9 ⟨rfl, b9⟩; have B9 := Lib.hid (BF.out.trans (b9.mono BF.out.size)); clear b9))
                go_ret
                exact ⟨rfl, B9.out⟩
            · have e1 : M = kk := by have := HMM.out; omega
              have f2 : ((64 : Int) < kk) = False := eq_false q4
              subst e1
              by_cases q2 : M < (i : Int)
              · clear q1 q4
                go_wp2
                go_ret
                exact ⟨rfl, BF.out⟩
              · have q3 : (K : Int) ≤ 7 + 81 * M := hKM'.out q2
                clear q1 q4
                go_wp2_with (go_at_call 25; ((with_reducible refine (CLG.out _).mono ?_); rintro e w9 ⟨rfl, b9⟩; have B9 := Lib.hid (BF.out.trans (b9.mono BF.out.size)); clear b9))
                go_ret
                exact ⟨rfl, B9.out⟩
end Go.Proofs.Ytdhdheakhcddbaa
