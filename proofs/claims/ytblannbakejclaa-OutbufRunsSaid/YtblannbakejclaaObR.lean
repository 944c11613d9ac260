/- The laws of layer 15 (outbuf), walked: round and round. -/
import Derived.Test.YtblannbakejclaaObP
namespace Go.Proofs.Ytblannbakejclaa
open Go.ChangeShapes Go.WideShapes Go.ChangeAt Go.RowKit
theorem RdI.take {w : World} {k : IntKind} {A : Option Addr} {n c : Nat} {zs : List Int} (h : RdI w k A n c zs) {m : Nat} (hm : m ≤ n) : RdI w k A m c (zs.take m) := by
  have hl := h.len
  have hc := h.cap
  exact ⟨by rw [List.length_take]; omega, by omega, h.max, fun h0 => by
    obtain ⟨b, off, e, hlt, hc⟩ := h.at_ (by omega)
    exact ⟨b, off, e, hlt, fun i hi => by rw [hc i (by omega)]; simp [List.getD, List.getElem?_take, hi]⟩, wf_take h.wf m⟩
theorem RdI.drop {w : World} {k : IntKind} {b off n c : Nat} {zs : List Int} (h : RdI w k (some ⟨b, off, none⟩) n c zs) {m : Nat} (hm : m < n) : RdI w k (some ⟨b, off + m, none⟩) (n - m) (c - m) (zs.drop m) := by
  have hl := h.len
  have hc := h.cap
  have hx := h.max
  obtain ⟨b', off', e, hlt, hcs⟩ := h.at_ (by omega)
  injection e with e; injection e with e1 e2
  subst e1 e2
  exact ⟨by rw [List.length_drop]; omega, by omega, by omega, fun h0 => ⟨b, off + m, rfl, hlt, fun i hi => by rw [Nat.add_assoc, hcs (m + i) (by omega)]; simp [List.getD]⟩, wf_drop h.wf m⟩
set_option maxHeartbeats 1600000 in
set_option maxRecDepth 100000 in
theorem round_law (w : World) (a a2 : Int) (A : Option Addr) (n c : Nat) (zs : List Int) (ha : -9223372036854775808 ≤ a ∧ a ≤ 9223372036854775807) (ha2 : -9223372036854775808 ≤ a2 ∧ a2 ≤ 9223372036854775807) (hr : RdI w .u8 A n c zs) :
    Calls Try.prog 5 #[.int .i64 a, .int .i64 a2, .slice A n c] w fun e w' => e = .returned (.bool true) ∧ Below w.heap.size w w' := by
  have hmx := hr.max
  unfold maxLen at hmx
  have hcp := hr.cap
  by_cases hn0 : n = 0
  · subst hn0
    clear hr
    go_enter Try.func5, Try.ntmps5
    go_wp2_with (go_at_call 8; refine (fit_any _).mono ?_; rintro e w1 ⟨rfl, b1⟩)
    go_ret
    exact ⟨rfl, b1⟩
  have hnf0 : ((n : Int) == 0) = false := by simpa using hn0
  by_cases hn : (100 : Int) < (n : Int)
  · clear hr
    go_enter Try.func5, Try.ntmps5
    go_wp2_with (go_at_call 8; refine (fit_any _).mono ?_; rintro e w1 ⟨rfl, b1⟩)
    go_ret
    exact ⟨rfl, b1⟩
  have hnf : decide ((100 : Int) < (n : Int)) = false := by simpa using hn
  obtain ⟨k7, hk7⟩ : ∃ k : Nat, a % 8 = (k : Int) := ⟨(a % 8).toNat, by omega⟩
  have e1 : bits .and .i64 a 7 = (k7 : Int) := by rw [i64_mask3, hk7]
  obtain ⟨N, hN⟩ : ∃ k : Nat, a2 % 128 = (k : Int) := ⟨(a2 % 128).toNat, by omega⟩
  have e2 : bits .and .i64 a2 127 = (N : Int) := by rw [i64_mask7, hN]
  obtain ⟨sz, hsz⟩ : ∃ sz : Nat, sz = n + k7 := ⟨_, rfl⟩
  have es : (n : Int) + (k7 : Int) = (sz : Int) := by omega
  have hszb : n ≤ sz ∧ sz ≤ 107 ∧ 1 ≤ n ∧ n ≤ 100 := by omega
  have kb : (k7 : Int) ≤ 7 := by omega
  have hn2 : (n : Int) ≤ 100 := by omega
  have hNb : (N : Int) ≤ 127 := by omega
  have hszi : (sz : Int) ≤ 107 := by omega
  have c1 := fun w => new_yes sz (by omega) (by omega) w
  have C1 := Lib.hid c1
  have HR := Lib.hid hr
  have HL := Lib.hid hr.len
  have HZ := Lib.hid hszb
  clear c1 hr hk7 hn ha ha2 hsz hszb hn0 hN
  go_enter Try.func5, Try.ntmps5
  go_wp2_with (first
    | (go_at_call 8; refine (fit_any _).mono ?_; rintro e w1 ⟨rfl, b1⟩; have B1 := Lib.hid b1; clear b1)
    | (go_at_call 9; ((with_reducible refine (C1.out _).mono ?_); rintro e w2 ⟨rfl, hb, b2⟩; have HB := Lib.hid hb; have B2 := Lib.hid (below_trans' B1.out b2); clear hb b2)))
  have OB := Lib.hid (show w.heap.size ≤ w1.heap.size + 1 ∧ w.heap.size ≤ w1.heap.size by have := B1.out.size; omega)
  generalize w1.heap.size + 1 = ob at HB OB ⊢
  generalize w1.heap.size = og at HB OB ⊢
  clear B1
  go_loopg [28] N (fun k si wr => ∃ i : Nat, i ≤ N ∧ k = N - i ∧ si = .int .i64 (i : Int) ∧ BufAt wr ob og sz [] ∧ Fr (obF ob og) w2 wr)
  case atStart => exact ⟨0, by omega, by omega, rfl, HB.out, Fr.refl _ _⟩
  case round =>
    obtain ⟨i, hi, hkk, rfl, hb, hf⟩ := hrel
    have HK := Lib.hid hkk
    have HF := Lib.hid hf
    have HBR := Lib.hid hb
    have BW := Lib.hid (B2.out.trans (hf.below B2.out.size (fun k hk => by have := OB.out; omega)))
    clear hkk hf hb
    by_cases hin : i < N
    · obtain ⟨bs, off, rfl, hlt, _⟩ := HR.out.at_ (by have := HZ.out; omega)
      obtain ⟨n1, hn1⟩ : ∃ n1, n = n1 + 1 := ⟨n - 1, by have := HZ.out; omega⟩
      have en : IntKind.i64.wrap ((n : Int) - 1) = (n1 : Int) := by rw [IntKind.wrap_i64]; omega
      have en1 : (n : Int) - 1 = (n1 : Int) := by omega
      have en0 : IntKind.i64.wrap (n1 : Int) = (n1 : Int) := by rw [IntKind.wrap_i64]; omega
      have k1 : n1 ≤ c := by omega
      have k2 : (n1 : Int) ≤ (c : Int) := by omega
      have k3 : (0 : Int) ≤ (n1 : Int) := by omega
      have k4 : n1 ≤ n := by omega
      have k5 : (n1 : Int) ≤ (n : Int) := by omega
      have k6 : ¬ c = n1 := by omega
      have k7' : n - n1 = 1 := by omega
      have k8 : (n : Int) ≤ (c : Int) := by omega
      have k9 : (c : Int) ≤ 9223372036854775807 := by omega
      obtain ⟨g1, hg1⟩ : ∃ g1, g1 = strOfNums (zs.take n1) := ⟨_, rfl⟩
      obtain ⟨g2, hg2⟩ : ∃ g2, g2 = strOfNums (zs.drop n1) := ⟨_, rfl⟩
      have cv := fun W (hb : Below w.heap.size w W) => And.intro
        (conv_str (P := Try.prog) (dst := 9) Try.underlying26 Try.underlying5 Try.underlying9 ((HR.out.below hb).take k4))
        (conv_str (P := Try.prog) (dst := 9) Try.underlying26 Try.underlying5 Try.underlying9 ((HR.out.below hb).drop (show n1 < n by omega)))
      rw [← hg1, ← hg2, k7'] at cv
      have CV := Lib.hid cv
      obtain ⟨i0, hi0, hz0, hz1, hz2⟩ := info_parts info5
      have hmk := make_bytes (P := Try.prog) (t := 26) (e := 5) Try.underlying26 hi0 hz0 hz1 hz2 sz (by omega)
      have HN1 := Lib.hid hn1
      have HG1 := Lib.hid hg1
      have HG2 := Lib.hid hg2
      clear hi0 hz0 hz1 hz2 cv hg1 hg2
      go_upto_region 9 with (fail)
      have cvd := CV.out wr.drew (below_draws BW.out 1)
      have pd : Below wr.heap.size wr wr.drew := below_draws (Below.refl _ _) 1
      have c2 := put_yes ob og sz [] (some ⟨bs, off, none⟩) n c zs wr.drew (HBR.out.keep pd) (HR.out.below (below_draws BW.out 1)) (by simp; exact HZ.out.1) (rd_ne HR.out OB.out.1 OB.out.2)
      rw [List.nil_append] at c2
      have C2 := Lib.hid c2
      have BD := Lib.hid (below_draws BW.out 1)
      have FD := Lib.hid (HF.out.trans (Fr.of_below (F := obF ob og) pd))
      clear pd c2 hn1
      refine wp_region_held_drew (S := fun w' => (convert 26 9 (.slice (some ⟨bs, off, none⟩) n1 c)).run Try.prog w' = .ok (.string g1) w' ∧ (convert 26 9 (.slice (some ⟨bs, off + n1, none⟩) 1 (c - n1))).run Try.prog w' = .ok (.string g2) w') (by kernel_rfl) cvd (fun hHeld => ?_)
      refine wpAnyH_take (i := 0) (oi := ?_) (v := ?_) ?_ ?_ ?_ ?_ ?_ ?_ ?_ ?_
      rotate_left 2
      · simp only [List.getElem?_toArray, List.getElem?_cons_succ, List.getElem?_cons_zero]; rfl
      · kernel_rfl
      · kernel_rfl
      · kernel_rfl
      · exact fun _ _ _ h => h
      · refine Or.inl ⟨by rfl, ?_⟩
        intro w' hSw
        (try dsimp only at hSw)
        go_simp
        all_goals (with_reducible rfl)
      · assumption
      try simp only [Act.put, List.setIfInBounds_toArray, List.set_cons_zero, List.set_cons_succ]
      refine wpAnyH_take (i := 1) (oi := ?_) (v := ?_) ?_ ?_ ?_ ?_ ?_ ?_ ?_ ?_
      rotate_left 2
      · simp only [List.getElem?_toArray, List.getElem?_cons_succ, List.getElem?_cons_zero]; rfl
      · kernel_rfl
      · kernel_rfl
      · kernel_rfl
      · exact fun _ _ _ h => h
      · refine Or.inl ⟨by rfl, ?_⟩
        intro w' hSw
        (try dsimp only at hSw)
        go_simp
        all_goals (with_reducible rfl)
      · assumption
      try simp only [Act.put, List.setIfInBounds_toArray, List.set_cons_zero, List.set_cons_succ]
      refine wpAnyH_ready (rs := [2]) (by kernel_rfl) (by simp) ?_
      refine AllReadyH.cons (o := ?_) ?_ ?_ ?_
      rotate_left 1
      · simp only [List.getElem?_toArray, List.getElem?_cons_succ, List.getElem?_cons_zero]; rfl
      rotate_left 1
      · exact AllReadyH.nil
      intro K hK
      go_simp
      refine C2.out.mono ?_; rintro e w3 ⟨rfl, hb3, f3⟩; have B3 := Lib.hid (BD.out.trans (f3.below BD.out.size (fun k hk => by have := OB.out; omega))); have H3 := Lib.hid hb3; have F3 := Lib.hid (FD.out.trans f3); clear hb3 f3
      refine hK.out _ _ (CV.out _ B3.out) (fun hHeld => ?_)
      clear hK K
      try simp only [Act.put, List.setIfInBounds_toArray, List.set_cons_zero, List.set_cons_succ]
      refine wpAnyH_take (i := 3) (oi := ?_) (v := ?_) ?_ ?_ ?_ ?_ ?_ ?_ ?_ ?_
      rotate_left 2
      · simp only [List.getElem?_toArray, List.getElem?_cons_succ, List.getElem?_cons_zero]; rfl
      · kernel_rfl
      · kernel_rfl
      · kernel_rfl
      · exact fun _ _ _ h => h
      · refine Or.inl ⟨by rfl, ?_⟩
        intro w' hSw
        (try dsimp only at hSw)
        go_simp
        all_goals (with_reducible rfl)
      · assumption
      try simp only [Act.put, List.setIfInBounds_toArray, List.set_cons_zero, List.set_cons_succ]
      refine wpAnyH_take (i := 4) (oi := ?_) (v := ?_) ?_ ?_ ?_ ?_ ?_ ?_ ?_ ?_
      rotate_left 2
      · simp only [List.getElem?_toArray, List.getElem?_cons_succ, List.getElem?_cons_zero]; rfl
      · kernel_rfl
      · kernel_rfl
      · kernel_rfl
      · exact fun _ _ _ h => h
      · refine Or.inl ⟨by rfl, ?_⟩
        intro w' hSw
        (try dsimp only at hSw)
        go_simp
        all_goals (with_reducible rfl)
      · assumption
      try simp only [Act.put, List.setIfInBounds_toArray, List.set_cons_zero, List.set_cons_succ]
      refine wpAnyH_take (i := 5) (oi := ?_) (v := ?_) ?_ ?_ ?_ ?_ ?_ ?_ ?_ ?_
      rotate_left 2
      · simp only [List.getElem?_toArray, List.getElem?_cons_succ, List.getElem?_cons_zero]; rfl
      · kernel_rfl
      · kernel_rfl
      · kernel_rfl
      · exact fun _ _ _ h => h
      · refine Or.inl ⟨by rfl, ?_⟩
        intro w' hSw
        (try dsimp only at hSw)
        go_simp
        all_goals (with_reducible rfl)
      · assumption
      try simp only [Act.put, List.setIfInBounds_toArray, List.set_cons_zero, List.set_cons_succ]
      refine wpAnyH_take (i := 6) (oi := ?_) (v := ?_) ?_ ?_ ?_ ?_ ?_ ?_ ?_ ?_
      rotate_left 2
      · simp only [List.getElem?_toArray, List.getElem?_cons_succ, List.getElem?_cons_zero]; rfl
      · kernel_rfl
      · kernel_rfl
      · kernel_rfl
      · exact fun _ _ _ h => h
      · refine Or.inl ⟨by rfl, ?_⟩
        intro w' hSw
        (try dsimp only at hSw)
        go_simp
        all_goals (with_reducible rfl)
      · assumption
      try simp only [Act.put, List.setIfInBounds_toArray, List.set_cons_zero, List.set_cons_succ]
      refine wpAnyH_ready (rs := [7]) (by kernel_rfl) (by simp) ?_
      refine AllReadyH.cons (o := ?_) ?_ ?_ ?_
      rotate_left 1
      · simp only [List.getElem?_toArray, List.getElem?_cons_succ, List.getElem?_cons_zero]; rfl
      rotate_left 1
      · exact AllReadyH.nil
      intro K hK
      go_simp
      obtain ⟨w4, ex, nx, bx, sx⟩ := box_new w3 (noughts sz) 5; rw [ex]; have B4 := Lib.hid (below_trans' B3.out bx); have H4 := Lib.hid (H3.out.keep bx); have F4 := Lib.hid (F3.out.trans (Fr.of_below (F := obF ob og) bx)); have R4 := Lib.hid (show RdI w4 .u8 (some ⟨w3.heap.size, 0, none⟩) sz sz (List.replicate sz 0) from rd_blk nx (by simp) (by have := HZ.out; unfold maxLen; omega) (fun z hz => by rw [(List.mem_replicate.1 hz).2]; decide)); clear ex nx bx sx
      refine hK.out _ _ (CV.out _ B4.out) (fun hHeld => ?_)
      clear hK K
      try simp only [Act.put, List.setIfInBounds_toArray, List.set_cons_zero, List.set_cons_succ]
      refine wpAnyH_ready (rs := [8]) (by kernel_rfl) (by simp) ?_
      refine AllReadyH.cons (o := ?_) ?_ ?_ ?_
      rotate_left 1
      · simp only [List.getElem?_toArray, List.getElem?_cons_succ, List.getElem?_cons_zero]; rfl
      rotate_left 1
      · exact AllReadyH.nil
      intro K hK
      go_simp
      (with_reducible refine (put_no ob og sz zs _ sz sz _ w4 H4.out R4.out (by have := HL.out; have := HZ.out; omega)).mono ?_); rintro e w5 ⟨rfl, b5⟩; have B5 := Lib.hid (below_trans' B4.out b5); have H5 := Lib.hid (H4.out.keep b5); have F5 := Lib.hid (F4.out.trans (Fr.of_below (F := obF ob og) b5)); clear b5
      refine hK.out _ _ (CV.out _ B5.out) (fun hHeld => ?_)
      clear hK K
      try simp only [Act.put, List.setIfInBounds_toArray, List.set_cons_zero, List.set_cons_succ]
      refine wpAnyH_take (i := 9) (oi := ?_) (v := ?_) ?_ ?_ ?_ ?_ ?_ ?_ ?_ ?_
      rotate_left 2
      · simp only [List.getElem?_toArray, List.getElem?_cons_succ, List.getElem?_cons_zero]; rfl
      · kernel_rfl
      · kernel_rfl
      · kernel_rfl
      · exact fun _ _ _ h => h
      · refine Or.inl ⟨by rfl, ?_⟩
        intro w' hSw
        (try dsimp only at hSw)
        go_simp
        all_goals (with_reducible rfl)
      · assumption
      try simp only [Act.put, List.setIfInBounds_toArray, List.set_cons_zero, List.set_cons_succ]
      refine wpAnyH_take (i := 10) (oi := ?_) (v := ?_) ?_ ?_ ?_ ?_ ?_ ?_ ?_ ?_
      rotate_left 2
      · simp only [List.getElem?_toArray, List.getElem?_cons_succ, List.getElem?_cons_zero]; rfl
      · kernel_rfl
      · kernel_rfl
      · kernel_rfl
      · exact fun _ _ _ h => h
      · refine Or.inl ⟨by rfl, ?_⟩
        intro w' hSw
        (try dsimp only at hSw)
        go_simp
        all_goals (with_reducible rfl)
      · assumption
      try simp only [Act.put, List.setIfInBounds_toArray, List.set_cons_zero, List.set_cons_succ]
      refine wpAnyH_take (i := 11) (oi := ?_) (v := ?_) ?_ ?_ ?_ ?_ ?_ ?_ ?_ ?_
      rotate_left 2
      · simp only [List.getElem?_toArray, List.getElem?_cons_succ, List.getElem?_cons_zero]; rfl
      · kernel_rfl
      · kernel_rfl
      · kernel_rfl
      · exact fun _ _ _ h => h
      · refine Or.inl ⟨by rfl, ?_⟩
        intro w' hSw
        (try dsimp only at hSw)
        go_simp
        all_goals (with_reducible rfl)
      · assumption
      try simp only [Act.put, List.setIfInBounds_toArray, List.set_cons_zero, List.set_cons_succ]
      refine wpAnyH_take (i := 12) (oi := ?_) (v := ?_) ?_ ?_ ?_ ?_ ?_ ?_ ?_ ?_
      rotate_left 2
      · simp only [List.getElem?_toArray, List.getElem?_cons_succ, List.getElem?_cons_zero]; rfl
      · kernel_rfl
      · kernel_rfl
      · kernel_rfl
      · exact fun _ _ _ h => h
      · refine Or.inl ⟨by rfl, ?_⟩
        intro w' hSw
        (try dsimp only at hSw)
        go_simp
        all_goals (with_reducible rfl)
      · assumption
      try simp only [Act.put, List.setIfInBounds_toArray, List.set_cons_zero, List.set_cons_succ]
      refine wpAnyH_take (i := 13) (oi := ?_) (v := ?_) ?_ ?_ ?_ ?_ ?_ ?_ ?_ ?_
      rotate_left 2
      · simp only [List.getElem?_toArray, List.getElem?_cons_succ, List.getElem?_cons_zero]; rfl
      · kernel_rfl
      · kernel_rfl
      · kernel_rfl
      · exact fun _ _ _ h => h
      · refine Or.inl ⟨by rfl, ?_⟩
        intro w' hSw
        (try dsimp only at hSw)
        go_simp
        all_goals (with_reducible rfl)
      · assumption
      try simp only [Act.put, List.setIfInBounds_toArray, List.set_cons_zero, List.set_cons_succ]
      refine wpAnyH_take (i := 14) (oi := ?_) (v := ?_) ?_ ?_ ?_ ?_ ?_ ?_ ?_ ?_
      rotate_left 2
      · simp only [List.getElem?_toArray, List.getElem?_cons_succ, List.getElem?_cons_zero]; rfl
      · kernel_rfl
      · kernel_rfl
      · kernel_rfl
      · exact fun _ _ _ h => h
      · refine Or.inl ⟨by rfl, ?_⟩
        intro w' hSw
        (try dsimp only at hSw)
        go_simp
        all_goals (with_reducible rfl)
      · assumption
      try simp only [Act.put, List.setIfInBounds_toArray, List.set_cons_zero, List.set_cons_succ]
      refine wpAnyH_take (i := 17) (oi := ?_) (v := ?_) ?_ ?_ ?_ ?_ ?_ ?_ ?_ ?_
      rotate_left 2
      · simp only [List.getElem?_toArray, List.getElem?_cons_succ, List.getElem?_cons_zero]; rfl
      · kernel_rfl
      · kernel_rfl
      · kernel_rfl
      · exact fun _ _ _ h => h
      · refine Or.inl ⟨by rfl, ?_⟩
        intro w' hSw
        (try dsimp only at hSw)
        go_simp
        all_goals (with_reducible rfl)
      · assumption
      try simp only [Act.put, List.setIfInBounds_toArray, List.set_cons_zero, List.set_cons_succ]
      refine wpAnyH_take (i := 18) (oi := ?_) (v := ?_) ?_ ?_ ?_ ?_ ?_ ?_ ?_ ?_
      rotate_left 2
      · simp only [List.getElem?_toArray, List.getElem?_cons_succ, List.getElem?_cons_zero]; rfl
      · kernel_rfl
      · kernel_rfl
      · kernel_rfl
      · exact fun _ _ _ h => h
      · refine Or.inl ⟨by rfl, ?_⟩
        intro w' hSw
        (try dsimp only at hSw)
        go_simp
        all_goals (with_reducible rfl)
      · assumption
      try simp only [Act.put, List.setIfInBounds_toArray, List.set_cons_zero, List.set_cons_succ]
      refine wpAnyH_take (i := 19) (oi := ?_) (v := ?_) ?_ ?_ ?_ ?_ ?_ ?_ ?_ ?_
      rotate_left 2
      · simp only [List.getElem?_toArray, List.getElem?_cons_succ, List.getElem?_cons_zero]; rfl
      · kernel_rfl
      · kernel_rfl
      · kernel_rfl
      · exact fun _ _ _ h => h
      · refine Or.inl ⟨by rfl, ?_⟩
        intro w' hSw
        (try dsimp only at hSw)
        go_simp
        all_goals (with_reducible rfl)
      · assumption
      try simp only [Act.put, List.setIfInBounds_toArray, List.set_cons_zero, List.set_cons_succ]
      refine wpAnyH_take (i := 20) (oi := ?_) (v := ?_) ?_ ?_ ?_ ?_ ?_ ?_ ?_ ?_
      rotate_left 2
      · simp only [List.getElem?_toArray, List.getElem?_cons_succ, List.getElem?_cons_zero]; rfl
      · kernel_rfl
      · kernel_rfl
      · kernel_rfl
      · exact fun _ _ _ h => h
      · refine Or.inl ⟨by rfl, ?_⟩
        intro w' hSw
        (try dsimp only at hSw)
        go_simp
        all_goals (with_reducible rfl)
      · assumption
      try simp only [Act.put, List.setIfInBounds_toArray, List.set_cons_zero, List.set_cons_succ]
      refine wpAnyH_take (i := 21) (oi := ?_) (v := ?_) ?_ ?_ ?_ ?_ ?_ ?_ ?_ ?_
      rotate_left 2
      · simp only [List.getElem?_toArray, List.getElem?_cons_succ, List.getElem?_cons_zero]; rfl
      · kernel_rfl
      · kernel_rfl
      · kernel_rfl
      · exact fun _ _ _ h => h
      · refine Or.inl ⟨by rfl, ?_⟩
        intro w' hSw
        (try dsimp only at hSw)
        go_simp
        all_goals (with_reducible rfl)
      · assumption
      try simp only [Act.put, List.setIfInBounds_toArray, List.set_cons_zero, List.set_cons_succ]
      refine wpAnyH_take (i := 22) (oi := ?_) (v := ?_) ?_ ?_ ?_ ?_ ?_ ?_ ?_ ?_
      rotate_left 2
      · simp only [List.getElem?_toArray, List.getElem?_cons_succ, List.getElem?_cons_zero]; rfl
      · kernel_rfl
      · kernel_rfl
      · kernel_rfl
      · exact fun _ _ _ h => h
      · refine Or.inl ⟨by rfl, ?_⟩
        intro w' hSw
        (try dsimp only at hSw)
        go_simp
        all_goals (with_reducible rfl)
      · assumption
      try simp only [Act.put, List.setIfInBounds_toArray, List.set_cons_zero, List.set_cons_succ]
      refine wpAnyH_ready (rs := [15]) (by kernel_rfl) (by simp) ?_
      refine AllReadyH.cons (o := ?_) ?_ ?_ ?_
      rotate_left 1
      · simp only [List.getElem?_toArray, List.getElem?_cons_succ, List.getElem?_cons_zero]; rfl
      rotate_left 1
      · exact AllReadyH.nil
      intro K hK
      go_simp
      (with_reducible refine (take_any ob og sz zs (n1 : Int) n1 w5 H5.out (by have := HL.out; have := HN1.out; omega)).mono ?_); rintro e w6 ⟨s, rfl, ns, hb6, f6, hs1, hs2, hs3⟩; have hcv6 := took_str (m := n1) ns (by rw [List.length_take]; have := HL.out; have := HN1.out; omega) (by have := HZ.out; have := HN1.out; omega) (wf_take HR.out.wf _); rw [← HG1.out] at hcv6; have B6 := Lib.hid (B5.out.trans (f6.below B5.out.size (fun k hk => by have := OB.out; omega))); have H6 := Lib.hid hb6; have F6 := Lib.hid (F5.out.trans f6); clear hb6 f6 ns
      refine hK.out _ _ (CV.out _ B6.out) (fun hHeld => ?_)
      clear hK K
      try simp only [Act.put, List.setIfInBounds_toArray, List.set_cons_zero, List.set_cons_succ]
      refine wpAnyH_ready (rs := [16]) (by kernel_rfl) (by simp) ?_
      refine AllReadyH.cons (o := ?_) ?_ ?_ ?_
      rotate_left 1
      · simp only [List.getElem?_toArray, List.getElem?_cons_succ, List.getElem?_cons_zero]; rfl
      rotate_left 1
      · exact AllReadyH.nil
      intro K hK
      go_simp
      skip
      refine hK.out _ _ (CV.out _ B6.out) (fun hHeld => ?_)
      clear hK K
      try simp only [Act.put, List.setIfInBounds_toArray, List.set_cons_zero, List.set_cons_succ]
      refine wpAnyH_take (i := 23) (oi := ?_) (v := ?_) ?_ ?_ ?_ ?_ ?_ ?_ ?_ ?_
      rotate_left 2
      · simp only [List.getElem?_toArray, List.getElem?_cons_succ, List.getElem?_cons_zero]; rfl
      · kernel_rfl
      · kernel_rfl
      · kernel_rfl
      · exact fun _ _ _ h => h
      · refine Or.inl ⟨by rfl, ?_⟩
        intro w' hSw
        (try dsimp only at hSw)
        go_simp
        all_goals (with_reducible rfl)
      · assumption
      try simp only [Act.put, List.setIfInBounds_toArray, List.set_cons_zero, List.set_cons_succ]
      refine wpAnyH_take (i := 24) (oi := ?_) (v := ?_) ?_ ?_ ?_ ?_ ?_ ?_ ?_ ?_
      rotate_left 2
      · simp only [List.getElem?_toArray, List.getElem?_cons_succ, List.getElem?_cons_zero]; rfl
      · kernel_rfl
      · kernel_rfl
      · kernel_rfl
      · exact fun _ _ _ h => h
      · refine Or.inl ⟨by rfl, ?_⟩
        intro w' hSw
        (try dsimp only at hSw)
        go_simp
        all_goals (with_reducible rfl)
      · assumption
      try simp only [Act.put, List.setIfInBounds_toArray, List.set_cons_zero, List.set_cons_succ]
      refine wpAnyH_take (i := 25) (oi := ?_) (v := ?_) ?_ ?_ ?_ ?_ ?_ ?_ ?_ ?_
      rotate_left 2
      · simp only [List.getElem?_toArray, List.getElem?_cons_succ, List.getElem?_cons_zero]; rfl
      · kernel_rfl
      · kernel_rfl
      · kernel_rfl
      · exact fun _ _ _ h => h
      · refine Or.inl ⟨by rfl, ?_⟩
        intro w' hSw
        (try dsimp only at hSw)
        go_simp
        all_goals (with_reducible rfl)
      · assumption
      try simp only [Act.put, List.setIfInBounds_toArray, List.set_cons_zero, List.set_cons_succ]
      refine wpAnyH_take (i := 26) (oi := ?_) (v := ?_) ?_ ?_ ?_ ?_ ?_ ?_ ?_ ?_
      rotate_left 2
      · simp only [List.getElem?_toArray, List.getElem?_cons_succ, List.getElem?_cons_zero]; rfl
      · kernel_rfl
      · kernel_rfl
      · kernel_rfl
      · exact fun _ _ _ h => h
      · refine Or.inl ⟨by rfl, ?_⟩
        intro w' hSw
        (try dsimp only at hSw)
        go_simp
        all_goals (with_reducible rfl)
      · assumption
      try simp only [Act.put, List.setIfInBounds_toArray, List.set_cons_zero, List.set_cons_succ]
      refine wpAnyH_ready (rs := [27]) (by kernel_rfl) (by simp) ?_
      refine AllReadyH.cons (o := ?_) ?_ ?_ ?_
      rotate_left 1
      · simp only [List.getElem?_toArray, List.getElem?_cons_succ, List.getElem?_cons_zero]; rfl
      rotate_left 1
      · exact AllReadyH.nil
      intro K hK
      go_simp
      have c7 := len_any ob og sz _ _ H6.out; have hl7 : (zs.drop n1).length = 1 := (by rw [List.length_drop]; have := HL.out; have := HN1.out; omega); rw [hl7] at c7; refine c7.mono ?_; rintro e w7 ⟨rfl, rfl⟩
      refine hK.out _ _ (CV.out _ B6.out) (fun hHeld => ?_)
      clear hK K
      try simp only [Act.put, List.setIfInBounds_toArray, List.set_cons_zero, List.set_cons_succ]
      refine wpAnyH_take (i := 28) (oi := ?_) (v := ?_) ?_ ?_ ?_ ?_ ?_ ?_ ?_ ?_
      rotate_left 2
      · simp only [List.getElem?_toArray, List.getElem?_cons_succ, List.getElem?_cons_zero]; rfl
      · kernel_rfl
      · kernel_rfl
      · kernel_rfl
      · exact fun _ _ _ h => h
      · refine Or.inl ⟨by rfl, ?_⟩
        intro w' hSw
        (try dsimp only at hSw)
        go_simp
        all_goals (with_reducible rfl)
      · assumption
      try simp only [Act.put, List.setIfInBounds_toArray, List.set_cons_zero, List.set_cons_succ]
      refine wpAnyH_take (i := 29) (oi := ?_) (v := ?_) ?_ ?_ ?_ ?_ ?_ ?_ ?_ ?_
      rotate_left 2
      · simp only [List.getElem?_toArray, List.getElem?_cons_succ, List.getElem?_cons_zero]; rfl
      · kernel_rfl
      · kernel_rfl
      · kernel_rfl
      · exact fun _ _ _ h => h
      · refine Or.inl ⟨by rfl, ?_⟩
        intro w' hSw
        (try dsimp only at hSw)
        go_simp
        all_goals (with_reducible rfl)
      · assumption
      try simp only [Act.put, List.setIfInBounds_toArray, List.set_cons_zero, List.set_cons_succ]
      refine wpAnyH_take (i := 30) (oi := ?_) (v := ?_) ?_ ?_ ?_ ?_ ?_ ?_ ?_ ?_
      rotate_left 2
      · simp only [List.getElem?_toArray, List.getElem?_cons_succ, List.getElem?_cons_zero]; rfl
      · kernel_rfl
      · kernel_rfl
      · kernel_rfl
      · exact fun _ _ _ h => h
      · refine Or.inl ⟨by rfl, ?_⟩
        intro w' hSw
        (try dsimp only at hSw)
        go_simp
        all_goals (with_reducible rfl)
      · assumption
      try simp only [Act.put, List.setIfInBounds_toArray, List.set_cons_zero, List.set_cons_succ]
      refine wpAnyH_take (i := 31) (oi := ?_) (v := ?_) ?_ ?_ ?_ ?_ ?_ ?_ ?_ ?_
      rotate_left 2
      · simp only [List.getElem?_toArray, List.getElem?_cons_succ, List.getElem?_cons_zero]; rfl
      · kernel_rfl
      · kernel_rfl
      · kernel_rfl
      · exact fun _ _ _ h => h
      · refine Or.inl ⟨by rfl, ?_⟩
        intro w' hSw
        (try dsimp only at hSw)
        go_simp
        all_goals (with_reducible rfl)
      · assumption
      try simp only [Act.put, List.setIfInBounds_toArray, List.set_cons_zero, List.set_cons_succ]
      refine wpAnyH_take (i := 34) (oi := ?_) (v := ?_) ?_ ?_ ?_ ?_ ?_ ?_ ?_ ?_
      rotate_left 2
      · simp only [List.getElem?_toArray, List.getElem?_cons_succ, List.getElem?_cons_zero]; rfl
      · kernel_rfl
      · kernel_rfl
      · kernel_rfl
      · exact fun _ _ _ h => h
      · refine Or.inl ⟨by rfl, ?_⟩
        intro w' hSw
        (try dsimp only at hSw)
        go_simp
        all_goals (with_reducible rfl)
      · assumption
      try simp only [Act.put, List.setIfInBounds_toArray, List.set_cons_zero, List.set_cons_succ]
      refine wpAnyH_take (i := 35) (oi := ?_) (v := ?_) ?_ ?_ ?_ ?_ ?_ ?_ ?_ ?_
      rotate_left 2
      · simp only [List.getElem?_toArray, List.getElem?_cons_succ, List.getElem?_cons_zero]; rfl
      · kernel_rfl
      · kernel_rfl
      · kernel_rfl
      · exact fun _ _ _ h => h
      · refine Or.inl ⟨by rfl, ?_⟩
        intro w' hSw
        (try dsimp only at hSw)
        go_simp
        all_goals (with_reducible rfl)
      · assumption
      try simp only [Act.put, List.setIfInBounds_toArray, List.set_cons_zero, List.set_cons_succ]
      refine wpAnyH_take (i := 36) (oi := ?_) (v := ?_) ?_ ?_ ?_ ?_ ?_ ?_ ?_ ?_
      rotate_left 2
      · simp only [List.getElem?_toArray, List.getElem?_cons_succ, List.getElem?_cons_zero]; rfl
      · kernel_rfl
      · kernel_rfl
      · kernel_rfl
      · exact fun _ _ _ h => h
      · refine Or.inl ⟨by rfl, ?_⟩
        intro w' hSw
        (try dsimp only at hSw)
        go_simp
        all_goals (with_reducible rfl)
      · assumption
      try simp only [Act.put, List.setIfInBounds_toArray, List.set_cons_zero, List.set_cons_succ]
      refine wpAnyH_take (i := 37) (oi := ?_) (v := ?_) ?_ ?_ ?_ ?_ ?_ ?_ ?_ ?_
      rotate_left 2
      · simp only [List.getElem?_toArray, List.getElem?_cons_succ, List.getElem?_cons_zero]; rfl
      · kernel_rfl
      · kernel_rfl
      · kernel_rfl
      · exact fun _ _ _ h => h
      · refine Or.inl ⟨by rfl, ?_⟩
        intro w' hSw
        (try dsimp only at hSw)
        go_simp
        all_goals (with_reducible rfl)
      · assumption
      try simp only [Act.put, List.setIfInBounds_toArray, List.set_cons_zero, List.set_cons_succ]
      refine wpAnyH_take (i := 38) (oi := ?_) (v := ?_) ?_ ?_ ?_ ?_ ?_ ?_ ?_ ?_
      rotate_left 2
      · simp only [List.getElem?_toArray, List.getElem?_cons_succ, List.getElem?_cons_zero]; rfl
      · kernel_rfl
      · kernel_rfl
      · kernel_rfl
      · exact fun _ _ _ h => h
      · refine Or.inl ⟨by rfl, ?_⟩
        intro w' hSw
        (try dsimp only at hSw)
        go_simp
        all_goals (with_reducible rfl)
      · assumption
      try simp only [Act.put, List.setIfInBounds_toArray, List.set_cons_zero, List.set_cons_succ]
      refine wpAnyH_take (i := 39) (oi := ?_) (v := ?_) ?_ ?_ ?_ ?_ ?_ ?_ ?_ ?_
      rotate_left 2
      · simp only [List.getElem?_toArray, List.getElem?_cons_succ, List.getElem?_cons_zero]; rfl
      · kernel_rfl
      · kernel_rfl
      · kernel_rfl
      · exact fun _ _ _ h => h
      · refine Or.inl ⟨by rfl, ?_⟩
        intro w' hSw
        (try dsimp only at hSw)
        go_simp
        all_goals (with_reducible rfl)
      · assumption
      try simp only [Act.put, List.setIfInBounds_toArray, List.set_cons_zero, List.set_cons_succ]
      refine wpAnyH_ready (rs := [32]) (by kernel_rfl) (by simp) ?_
      refine AllReadyH.cons (o := ?_) ?_ ?_ ?_
      rotate_left 1
      · simp only [List.getElem?_toArray, List.getElem?_cons_succ, List.getElem?_cons_zero]; rfl
      rotate_left 1
      · exact AllReadyH.nil
      intro K hK
      go_simp
      (with_reducible refine (take_any ob og sz _ 9 1 _ H6.out (by rw [List.length_drop]; have := HL.out; have := HN1.out; omega)).mono ?_); rintro e w8 ⟨s8, rfl, ns8, hb8, f8, hs4, hs5, hs6⟩; rw [List.take_of_length_le (by rw [List.length_drop]; have := HL.out; have := HN1.out; omega)] at ns8; have hcv8 := took_str (m := 1) ns8 (by rw [List.length_drop]; have := HL.out; have := HN1.out; omega) (by omega) (wf_drop HR.out.wf _); rw [← HG2.out] at hcv8; have B8 := Lib.hid (B6.out.trans (f8.below B6.out.size (fun k hk => by have := OB.out; omega))); rw [List.drop_drop, List.drop_eq_nil_of_le (by have := HL.out; have := HN1.out; omega)] at hb8; have H8 := Lib.hid hb8; have F8 := Lib.hid (F6.out.trans f8); clear hb8 f8 ns8
      refine hK.out _ _ (CV.out _ B8.out) (fun hHeld => ?_)
      clear hK K
      try simp only [Act.put, List.setIfInBounds_toArray, List.set_cons_zero, List.set_cons_succ]
      refine wpAnyH_ready (rs := [33]) (by kernel_rfl) (by simp) ?_
      refine AllReadyH.cons (o := ?_) ?_ ?_ ?_
      rotate_left 1
      · simp only [List.getElem?_toArray, List.getElem?_cons_succ, List.getElem?_cons_zero]; rfl
      rotate_left 1
      · exact AllReadyH.nil
      intro K hK
      go_simp
      skip
      refine hK.out _ _ (CV.out _ B8.out) (fun hHeld => ?_)
      clear hK K
      try simp only [Act.put, List.setIfInBounds_toArray, List.set_cons_zero, List.set_cons_succ]
      refine wpAnyH_take (i := 40) (oi := ?_) (v := ?_) ?_ ?_ ?_ ?_ ?_ ?_ ?_ ?_
      rotate_left 2
      · simp only [List.getElem?_toArray, List.getElem?_cons_succ, List.getElem?_cons_zero]; rfl
      · kernel_rfl
      · kernel_rfl
      · kernel_rfl
      · exact fun _ _ _ h => h
      · refine Or.inl ⟨by rfl, ?_⟩
        intro w' hSw
        (try dsimp only at hSw)
        go_simp
        all_goals (with_reducible rfl)
      · assumption
      try simp only [Act.put, List.setIfInBounds_toArray, List.set_cons_zero, List.set_cons_succ]
      refine wpAnyH_take (i := 41) (oi := ?_) (v := ?_) ?_ ?_ ?_ ?_ ?_ ?_ ?_ ?_
      rotate_left 2
      · simp only [List.getElem?_toArray, List.getElem?_cons_succ, List.getElem?_cons_zero]; rfl
      · kernel_rfl
      · kernel_rfl
      · kernel_rfl
      · exact fun _ _ _ h => h
      · refine Or.inl ⟨by rfl, ?_⟩
        intro w' hSw
        (try dsimp only at hSw)
        go_simp
        all_goals (with_reducible rfl)
      · assumption
      try simp only [Act.put, List.setIfInBounds_toArray, List.set_cons_zero, List.set_cons_succ]
      refine wpAnyH_done (by kernel_rfl) ?_ _
      go_wp2
      go_roundg (N - (i + 1))
      case measure => have := HK.out; omega
      case rel => exact ⟨i + 1, by omega, by omega, by go_num, H8.out, F8.out⟩
    · have cl := len_any _ _ _ _ wr HBR.out
      have cr := room_any _ _ _ _ wr HBR.out
      rw [show (([] : List Int).length) = 0 from rfl] at cl cr
      rw [Nat.sub_zero] at cr
      have CL := Lib.hid (show Calls Try.prog 12 #[.pointer (some ⟨ob, 0, none⟩)] wr fun e w' => e = .returned (.int .i64 0) ∧ wr = w' from cl)
      have CR := Lib.hid cr
      clear cl cr
      go_wp2_with (first
        | (go_at_call 12; ((with_reducible refine CL.out.mono ?_); rintro e w4 ⟨rfl, rfl⟩))
        | (go_at_call 13; ((with_reducible refine CR.out.mono ?_); rintro e w5 ⟨rfl, b5⟩; have B5 := Lib.hid b5; clear b5)))
      go_ret
      exact ⟨rfl, below_trans' BW.out B5.out⟩
end Go.Proofs.Ytblannbakejclaa
