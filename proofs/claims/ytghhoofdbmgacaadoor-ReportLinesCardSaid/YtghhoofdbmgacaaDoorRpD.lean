/- The contracts of layer 21 (report): Said. -/
import Derived.Test.YtghhoofdbmgacaaDoorRpC
namespace Go.Proofs.YtghhoofdbmgacaaDoor
set_option linter.unusedSimpArgs false
set_option linter.unusedVariables false
open Go.ChangeShapes Go.WideShapes Go.ChangeAt Go.RowKit Go.Deep
theorem mem_six {P : Int → Prop} {a b c d e f : Int} (ha : P a) (hb : P b) (hc : P c) (hd : P d) (he : P e) (hf : P f) : ∀ x ∈ [a, b, c, d, e, f], P x := by
  intro x hx
  simp only [List.mem_cons, List.not_mem_nil, or_false] at hx
  rcases hx with rfl | rfl | rfl | rfl | rfl | rfl <;> assumption
theorem mem_one {P : Int → Prop} {a : Int} (ha : P a) : ∀ x ∈ [a], P x := by
  intro x hx
  simp only [List.mem_singleton] at hx
  rw [hx]; exact ha
theorem i64_small {x : Int} (h : 0 ≤ x ∧ x ≤ 255) : i64P x := by unfold i64P; omega
set_option maxHeartbeats 8000000 in
theorem rsaid_ans (op v rem ret : Int) (lv : Value) (ru a d b c wt er : Int) (ho : op = 1 ∨ op = 2) (h1 : i64P rem) (h2 : i64P ret) (w : World) (ht : Tb w) (word : List Int) (hw : word = if op = 1 then [99, 104, 101, 99, 107] else [112, 101, 101, 107]) :
    Calls Tryd.prog 10 #[.agg (sdC op ru v rem ret a d b c wt lv er)] w fun e w' => e = .returned (.string (strOfNums (word ++ (32 :: (verZ v ++ numsZ [rem, ret]))))) ∧ Below w.heap.size w w' := by
  have HT := Lib.hid ht
  have HW := Lib.hid hw
  have H12 := Lib.hid (And.intro h1 h2)
  have BOX := Lib.hid (box_new w (sdC op ru v rem ret a d b c wt lv er) 36)
  have CA := Lib.hid (fun (wx : World) (hx : Below w.heap.size w wx) => ranswer_any word (by rw [hw]; split <;> decide) v rem ret h1 h2 wx (ht.below hx))
  clear ht h1 h2
  rcases ho with rfl | rfl
  · rw [if_pos rfl] at hw
    subst hw
    go_enter Tryd.func10, Tryd.ntmps10
    go_upto_region 1 with (fail)
    obtain ⟨w1, hw1, hbk, hbl, hsz1⟩ := BOX.out
    change Code.wp _ _ _ _ (w.alloc (.cells (sdC 1 ru v rem ret a d b c wt lv er) 36))
    rw [hw1]
    obtain ⟨b0, hb0⟩ : ∃ b0, b0 = w.heap.size := ⟨_, rfl⟩
    rw [← hb0] at hbk ⊢
    have k0 := hbk.rd
    have BL := Lib.hid hbl
    rw [← lit_check] at CA
    clear hbk hbl hsz1 hw1 hb0
    go_wp2_with (go_at_call 14; ((with_reducible refine (CA.out _ BL.out).mono ?_); rintro e w3 ⟨rfl, b3⟩; have B3 := Lib.hid (BL.out.trans (b3.mono BL.out.size)); clear b3))
    go_ret
    exact ⟨rfl, B3.out⟩
  · rw [if_neg (by omega)] at hw
    subst hw
    go_enter Tryd.func10, Tryd.ntmps10
    go_upto_region 1 with (fail)
    obtain ⟨w1, hw1, hbk, hbl, hsz1⟩ := BOX.out
    change Code.wp _ _ _ _ (w.alloc (.cells (sdC 2 ru v rem ret a d b c wt lv er) 36))
    rw [hw1]
    obtain ⟨b0, hb0⟩ : ∃ b0, b0 = w.heap.size := ⟨_, rfl⟩
    rw [← hb0] at hbk ⊢
    have k0 := hbk.rd
    have BL := Lib.hid hbl
    rw [← lit_peek] at CA
    clear hbk hbl hsz1 hw1 hb0
    go_wp2_with (go_at_call 14; ((with_reducible refine (CA.out _ BL.out).mono ?_); rintro e w3 ⟨rfl, b3⟩; have B3 := Lib.hid (BL.out.trans (b3.mono BL.out.size)); clear b3))
    go_ret
    exact ⟨rfl, B3.out⟩
set_option maxHeartbeats 8000000 in
theorem rsaid_tot (ru a d b c wt : Int) (lv : Value) (v rem ret er : Int) (h0 : i64P ru) (h1 : i64P a) (h2 : i64P d) (h3 : i64P b) (h4 : i64P c) (h5 : i64P wt) (w : World) (ht : Tb w) :
    Calls Tryd.prog 10 #[.agg (sdC 3 ru v rem ret a d b c wt lv er)] w fun e w' => e = .returned (.string (strOfNums ([115, 116, 97, 116, 115] ++ numsZ [ru, a, d, b, c, wt]))) ∧ Below w.heap.size w w' := by
  have BOX := Lib.hid (box_new w (sdC 3 ru v rem ret a d b c wt lv er) 36)
  obtain ⟨s2, hs2⟩ : ∃ s, s = strOfNums (numsZ [ru, a, d, b, c, wt]) := ⟨_, rfl⟩
  have HS := Lib.hid (show (⟨#[115, 116, 97, 116, 115]⟩ : ByteArray) ++ s2 = strOfNums ([115, 116, 97, 116, 115] ++ numsZ [ru, a, d, b, c, wt]) from by rw [hs2, lit_stats, str_append])
  have z2 : s2.size ≤ 126 := by rw [hs2, str_size]; exact nums_len _ (mem_six (P := i64P) h0 h1 h2 h3 h4 h5)
  have CN := Lib.hid (fun (wx : World) (gx : Nat) (h : Blk wx gx 2 #[.int .i64 ru, .int .i64 a, .int .i64 d, .int .i64 b, .int .i64 c, .int .i64 wt]) (hb : Below w.heap.size w wx) => show Calls Tryd.prog 15 #[.slice (some ⟨gx, 0, none⟩) 6 6] wx (fun e w' => e = .returned (.string s2) ∧ Below wx.heap.size wx w') from by rw [hs2]; exact rnums_any gx 6 [ru, a, d, b, c, wt] (mem_six (P := i64P) h0 h1 h2 h3 h4 h5) rfl (by omega) wx (ht.below hb) h)
  clear hs2 ht h0 h1 h2 h3 h4 h5
  go_enter Tryd.func10, Tryd.ntmps10
  go_upto_region 1 with (fail)
  obtain ⟨w1, hw1, hbk, hbl, hsz1⟩ := BOX.out
  change Code.wp _ _ _ _ (w.alloc (.cells (sdC 3 ru v rem ret a d b c wt lv er) 36))
  rw [hw1]
  obtain ⟨b0, hb0⟩ : ∃ b0, b0 = w.heap.size := ⟨_, rfl⟩
  rw [← hb0] at hbk ⊢
  have k0 := hbk.rd
  have BK := Lib.hid hbk
  have BL := Lib.hid hbl
  clear hbk hbl hsz1 hw1 hb0
  go_upto_region 8 with (fail)
  obtain ⟨w2, hw2, hbk, hbl, hsz2⟩ := box_new w1 (totC a d b c wt) 25
  change Code.wp _ _ _ _ (w1.alloc (.cells (totC a d b c wt) 25))
  rw [hw2]
  have k2 := hbk.rd
  have k3 := (BK.out.keep hbl).rd
  have B2 := Lib.hid (BL.out.trans (hbl.mono BL.out.size))
  have KI := Lib.hid (heap_alloc_new w2 (.cells #[.int .i64 ru, .int .i64 a, .int .i64 d, .int .i64 b, .int .i64 c, .int .i64 wt] 2))
  have B3 := Lib.hid (B2.out.alloc B2.out.size (.cells #[.int .i64 ru, .int .i64 a, .int .i64 d, .int .i64 b, .int .i64 c, .int .i64 wt] 2))
  clear hbk hbl hsz2 hw2 k0
  go_wp2_with (go_at_call 15; ((with_reducible refine (CN.out _ _ KI.out B3.out).mono ?_); rintro e w4 ⟨rfl, b4⟩; have B4 := Lib.hid (B3.out.trans (b4.mono B3.out.size)); clear b4))
  go_ret
  exact ⟨congrArg (fun z => Ending.returned (.string z)) HS.out, B4.out⟩
set_option maxHeartbeats 8000000 in
theorem rsaid_err (er : Int) (lv : Value) (ru v rem ret a d b c wt : Int) (h0 : i64P er) (w : World) (ht : Tb w) :
    Calls Tryd.prog 10 #[.agg (sdC 127 ru v rem ret a d b c wt lv er)] w fun e w' => e = .returned (.string (strOfNums ([102, 97, 117, 108, 116] ++ numsZ [er]))) ∧ Below w.heap.size w w' := by
  have BOX := Lib.hid (box_new w (sdC 127 ru v rem ret a d b c wt lv er) 36)
  obtain ⟨s2, hs2⟩ : ∃ s, s = strOfNums (numsZ [er]) := ⟨_, rfl⟩
  have HS := Lib.hid (show (⟨#[102, 97, 117, 108, 116]⟩ : ByteArray) ++ s2 = strOfNums ([102, 97, 117, 108, 116] ++ numsZ [er]) from by rw [hs2, lit_fault, str_append])
  have z2 : s2.size ≤ 21 := by rw [hs2, str_size]; exact nums_len _ (mem_one (P := i64P) h0)
  have CN := Lib.hid (fun (wx : World) (gx : Nat) (h : Blk wx gx 2 #[.int .i64 er]) (hb : Below w.heap.size w wx) => show Calls Tryd.prog 15 #[.slice (some ⟨gx, 0, none⟩) 1 1] wx (fun e w' => e = .returned (.string s2) ∧ Below wx.heap.size wx w') from by rw [hs2]; exact rnums_any gx 1 [er] (mem_one (P := i64P) h0) rfl (by omega) wx (ht.below hb) h)
  clear hs2 ht h0
  go_enter Tryd.func10, Tryd.ntmps10
  go_upto_region 1 with (fail)
  obtain ⟨w1, hw1, hbk, hbl, hsz1⟩ := BOX.out
  change Code.wp _ _ _ _ (w.alloc (.cells (sdC 127 ru v rem ret a d b c wt lv er) 36))
  rw [hw1]
  obtain ⟨b0, hb0⟩ : ∃ b0, b0 = w.heap.size := ⟨_, rfl⟩
  rw [← hb0] at hbk ⊢
  have k0 := hbk.rd
  have BL := Lib.hid hbl
  have KI := Lib.hid (heap_alloc_new w1 (.cells #[.int .i64 er] 2))
  have B3 := Lib.hid (BL.out.alloc BL.out.size (.cells #[.int .i64 er] 2))
  clear hbk hbl hsz1 hw1 hb0
  go_wp2_with (go_at_call 15; ((with_reducible refine (CN.out _ _ KI.out B3.out).mono ?_); rintro e w4 ⟨rfl, b4⟩; have B4 := Lib.hid (B3.out.trans (b4.mono B3.out.size)); clear b4))
  go_ret
  exact ⟨congrArg (fun z => Ending.returned (.string z)) HS.out, B4.out⟩
theorem key_len (k : List Int) : (keyZ k).length ≤ 2 * k.length + 1 := by
  unfold keyZ
  split
  · simp
  · rw [hexL_length]; omega
theorem rows_len : ∀ (l : List Cnt), oks l → (rowsZ l).length ≤ 200 * l.length
  | [], _ => by simp [rowsZ]
  | c :: l, h => by
    have h1 := h c (by simp)
    have h2 := key_len c.key
    have h3 := nums_len [c.n, c.e] (mem_two (P := i64P) h1.2.2.1 h1.2.2.2)
    have h4 := rows_len l (fun x hx => h x (by simp [hx]))
    have h5 := h1.1
    rw [rowsZ, List.length_cons, List.length_append, List.length_append, List.length_cons]
    simp only [List.length_cons, List.length_nil] at h3
    omega
theorem zs_snoc {ls : List CV} {i : Nat} (hi : i < ls.length) : zs (ls.take (i + 1)) = zs (ls.take i) ++ [(ls[i]).z] := by
  unfold zs
  rw [List.take_succ_eq_append_getElem hi, List.map_append]
  rfl
set_option maxHeartbeats 16000000 in
theorem rsaid_top (ru : Int) (LA : Option Addr) (LC : Nat) (ls : List CV) (v rem ret a d b c wt er : Int) (h0 : i64P ru) (hn : ls.length ≤ 255) (hok : oks (zs ls)) (w : World) (ht : Tb w) (hcv : CvAt w LA LC ls) :
    Calls Tryd.prog 10 #[.agg (sdC 4 ru v rem ret a d b c wt (.slice LA ls.length LC) er)] w fun e w' => e = .returned (.string (strOfNums ([116, 111, 112] ++ (numsZ [ru] ++ rowsZ (zs ls))))) ∧ Below w.heap.size w w' := by
  obtain ⟨n, hne⟩ : ∃ n, n = ls.length := ⟨_, rfl⟩
  rw [← hne] at hn ⊢
  have HL := Lib.hid hne.symm
  have HCV := Lib.hid hcv
  have HOK := Lib.hid hok
  have HT := Lib.hid ht
  have hcp := hcv.cap
  rw [← hne] at hcp
  have hmx := hcv.max
  unfold maxLen at hmx
  have BOX := Lib.hid (box_new w (sdC 4 ru v rem ret a d b c wt (.slice LA n LC) er) 36)
  obtain ⟨s2, hs2⟩ : ∃ s, s = strOfNums (numsZ [ru]) := ⟨_, rfl⟩
  have HS := Lib.hid (show (⟨#[116, 111, 112]⟩ : ByteArray) ++ s2 = strOfNums ([116, 111, 112] ++ numsZ [ru]) from by rw [hs2, lit_top, str_append])
  have z2 : s2.size ≤ 21 := by rw [hs2, str_size]; exact nums_len _ (mem_one (P := i64P) h0)
  have HZ0 := Lib.hid (show ([116, 111, 112] ++ numsZ [ru]).length ≤ 24 from by
    have := nums_len [ru] (mem_one (P := i64P) h0)
    rw [List.length_append]
    simp only [List.length_cons, List.length_nil] at this ⊢
    omega)
  have CN := Lib.hid (fun (wx : World) (gx : Nat) (h : Blk wx gx 2 #[.int .i64 ru]) (hb : Below w.heap.size w wx) => show Calls Tryd.prog 15 #[.slice (some ⟨gx, 0, none⟩) 1 1] wx (fun e w' => e = .returned (.string s2) ∧ Below wx.heap.size wx w') from by rw [hs2]; exact rnums_any gx 1 [ru] (mem_one (P := i64P) h0) rfl (by omega) wx (ht.below hb) h)
  have hnb : (n : Int) ≤ 255 := by omega
  clear hs2 ht h0 hcv hok hne
  go_enter Tryd.func10, Tryd.ntmps10
  go_upto_region 1 with (fail)
  obtain ⟨w1, hw1, hbk, hbl, hsz1⟩ := BOX.out
  change Code.wp _ _ _ _ (w.alloc (.cells (sdC 4 ru v rem ret a d b c wt (.slice LA n LC) er) 36))
  rw [hw1]
  obtain ⟨b0, hb0⟩ : ∃ b0, b0 = w.heap.size := ⟨_, rfl⟩
  rw [← hb0] at hbk ⊢
  have k0 := hbk.rd
  have BK := Lib.hid hbk
  have BL := Lib.hid hbl
  have KI := Lib.hid (heap_alloc_new w1 (.cells #[.int .i64 ru] 2))
  have B3 := Lib.hid (BL.out.alloc BL.out.size (.cells #[.int .i64 ru] 2))
  have BK3 := Lib.hid (hbk.alloc (.cells #[.int .i64 ru] 2))
  clear hbk hbl hsz1 hw1 hb0
  go_upto_region 12 with (go_at_call 15; ((with_reducible refine (CN.out _ _ KI.out B3.out).mono ?_); rintro e w4 ⟨rfl, b4⟩; have B4 := Lib.hid (B3.out.trans (b4.mono B3.out.size)); have k4 := (BK3.out.keep b4).rd; clear b4))
  rw [HS.out]
  clear k0 k4
  go_loopg [4, 48] n (fun k s4 s48 wr => ∃ i : Nat, i ≤ n ∧ k = n - i ∧ s48 = .int .i64 (i : Int) ∧ s4 = .string (strOfNums (([116, 111, 112] ++ numsZ [ru]) ++ rowsZ (zs (ls.take i)))) ∧ Below w.heap.size w wr)
  case atStart => exact ⟨0, by omega, by omega, rfl, by simp [zs, rowsZ], B4.out⟩
  case round =>
    obtain ⟨i, hi, hkk, rfl, rfl, hb⟩ := hrel
    have HK := Lib.hid hkk
    have HB := Lib.hid hb
    clear hkk hb
    by_cases hin : i < n
    · have hil : i < ls.length := by rw [HL.out]; exact hin
      have HNX := Lib.hid (zs_snoc hil)
      have hca : (ls[i]).z.ok := HOK.out _ (List.mem_map_of_mem (List.getElem_mem hil))
      have hln := rows_len (zs (ls.take i)) (fun x hx => HOK.out x (by
        unfold zs at hx ⊢
        rw [List.map_take] at hx
        exact List.mem_of_mem_take hx))
      rw [zs_length, List.length_take] at hln
      obtain ⟨g, off, e', hlt, hc⟩ := (HCV.out.below HB.out).at_ (by omega)
      subst e'
      have c0 := hc i hil 0 (by omega)
      have c1 := hc i hil 1 (by omega)
      have c2 := hc i hil 2 (by omega)
      obtain ⟨x, haa⟩ : ∃ x, x = ls[i] := ⟨_, rfl⟩
      rw [← haa] at c0 c1 c2 HNX hca
      obtain ⟨s, cn, ce⟩ := x
      have hss : s.size ≤ 64 := by have := hca.1; rwa [show (CV.z ⟨s, cn, ce⟩).key = nums s from rfl, nums_length] at this
      have hcn : i64P cn := hca.2.2.1
      have hce : i64P ce := hca.2.2.2
      obtain ⟨sl, hsl⟩ : ∃ z, z = strOfNums (([116, 111, 112] ++ numsZ [ru]) ++ rowsZ (zs (ls.take i))) := ⟨_, rfl⟩
      obtain ⟨sk, hsk⟩ : ∃ z, z = strOfNums (keyZ (nums s)) := ⟨_, rfl⟩
      obtain ⟨sn, hsn⟩ : ∃ z, z = strOfNums (numsZ [cn, ce]) := ⟨_, rfl⟩
      have HSS := Lib.hid (show sl ++ (((⟨#[32]⟩ : ByteArray) ++ sk) ++ sn) = strOfNums (([116, 111, 112] ++ numsZ [ru]) ++ rowsZ (zs (ls.take (i + 1)))) from by
        rw [hsl, hsk, hsn, lit_sp, str_append, str_append, str_append, HNX.out, rowsZ_app]
        congr 1
        simp [rowsZ, CV.z])
      have zl : sl.size ≤ 60000 := by rw [hsl, str_size, List.length_append]; have := HZ0.out; omega
      have zk : sk.size ≤ 129 := by rw [hsk, str_size]; have := key_len (nums s); rw [nums_length] at this; omega
      have zn : sn.size ≤ 42 := by rw [hsn, str_size]; exact nums_len _ (mem_two (P := i64P) hcn hce)
      have q1 : (9223372036854775807 < 1 + sk.size) = False := eq_false (by omega)
      have q2 : (9223372036854775807 < 1 + sk.size + sn.size) = False := eq_false (by omega)
      have q3 : (9223372036854775807 < sl.size + (1 + sk.size + sn.size)) = False := eq_false (by omega)
      have CK := Lib.hid (fun wx => show Calls Tryd.prog 16 #[.string s] wx (fun e w' => e = .returned (.string sk) ∧ Below wx.heap.size wx w') from by rw [hsk]; exact keyed_any s hss wx)
      have CM := Lib.hid (fun (wx : World) (gx : Nat) (h : Blk wx gx 2 #[.int .i64 cn, .int .i64 ce]) (hb : Below w.heap.size w wx) => show Calls Tryd.prog 15 #[.slice (some ⟨gx, 0, none⟩) 2 2] wx (fun e w' => e = .returned (.string sn) ∧ Below wx.heap.size wx w') from by rw [hsn]; exact rnums_any gx 2 [cn, ce] (mem_two (P := i64P) hcn hce) rfl (by omega) wx (HT.out.below hb) h)
      rw [← hsl]
      simp [CV.cells] at c0 c1 c2
      clear haa hc hlt hca hln hss hcn hce hsl hsk hsn
      go_upto_region 14 with (fail)
      clear c0 c1 c2
      obtain ⟨w3, hw3, hbk, hbl, hsz3⟩ := box_new wr (cvC s cn ce) 29
      change Code.wp _ _ _ _ (wr.alloc (.cells (cvC s cn ce) 29))
      rw [hw3]
      obtain ⟨b3, hb3⟩ : ∃ b3, b3 = wr.heap.size := ⟨_, rfl⟩
      rw [← hb3] at hbk ⊢
      have B5 := Lib.hid (HB.out.trans (hbl.mono HB.out.size))
      have BQ := Lib.hid (show Blk w3.drew b3 29 (cvC s cn ce) from hbk.drew)
      have BD := Lib.hid (show Below w.heap.size w w3.drew from below_draws B5.out 1)
      have y1 : ∀ j, w3.drew.cell? ⟨b3, j, none⟩ = (cvC s cn ce)[j]? := hbk.drew.rd
      clear hw3 hbk hbl hsz3 hb3
      refine wp_region_held_drew (S := fun w' => ∀ j, w'.cell? ⟨b3, j, none⟩ = (cvC s cn ce)[j]?) (by kernel_rfl) y1 (fun hHeld => ?_)
      clear y1
      refine wpAnyH_take (i := 0) (oi := ?_) (v := ?_) ?_ ?_ ?_ ?_ ?_ ?_ ?_ ?_
      rotate_left 2
      · simp only [List.getElem?_toArray, List.getElem?_cons_succ, List.getElem?_cons_zero]; rfl
      · kernel_rfl
      · kernel_rfl
      · kernel_rfl
      · exact fun _ _ _ h => h
      · refine Or.inl ⟨by rfl, ?_⟩
        intro w' hSw
        (try dsimp only at hSw)
        go_simp
        all_goals (with_reducible rfl)
      · assumption
      try simp only [Act.put, List.setIfInBounds_toArray, List.set_cons_zero, List.set_cons_succ]
      refine wpAnyH_take (i := 1) (oi := ?_) (v := ?_) ?_ ?_ ?_ ?_ ?_ ?_ ?_ ?_
      rotate_left 2
      · simp only [List.getElem?_toArray, List.getElem?_cons_succ, List.getElem?_cons_zero]; rfl
      · kernel_rfl
      · kernel_rfl
      · kernel_rfl
      · exact fun _ _ _ h => h
      · refine Or.inl ⟨by rfl, ?_⟩
        intro w' hSw
        (try dsimp only at hSw)
        go_simp
        all_goals (with_reducible rfl)
      · assumption
      try simp only [Act.put, List.setIfInBounds_toArray, List.set_cons_zero, List.set_cons_succ]
      refine wpAnyH_take (i := 2) (oi := ?_) (v := ?_) ?_ ?_ ?_ ?_ ?_ ?_ ?_ ?_
      rotate_left 2
      · simp only [List.getElem?_toArray, List.getElem?_cons_succ, List.getElem?_cons_zero]; rfl
      · kernel_rfl
      · kernel_rfl
      · kernel_rfl
      · exact fun _ _ _ h => h
      · refine Or.inl ⟨by rfl, ?_⟩
        intro w' hSw
        (try dsimp only at hSw)
        go_simp
        all_goals (with_reducible rfl)
      · assumption
      try simp only [Act.put, List.setIfInBounds_toArray, List.set_cons_zero, List.set_cons_succ]
      refine wpAnyH_take (i := 5) (oi := ?_) (v := ?_) ?_ ?_ ?_ ?_ ?_ ?_ ?_ ?_
      rotate_left 2
      · simp only [List.getElem?_toArray, List.getElem?_cons_succ, List.getElem?_cons_zero]; rfl
      · kernel_rfl
      · kernel_rfl
      · kernel_rfl
      · exact fun _ _ _ h => h
      · refine Or.inl ⟨by rfl, ?_⟩
        intro w' hSw
        (try dsimp only at hSw)
        go_simp
        all_goals (with_reducible rfl)
      · assumption
      try simp only [Act.put, List.setIfInBounds_toArray, List.set_cons_zero, List.set_cons_succ]
      refine wpAnyH_take (i := 6) (oi := ?_) (v := ?_) ?_ ?_ ?_ ?_ ?_ ?_ ?_ ?_
      rotate_left 2
      · simp only [List.getElem?_toArray, List.getElem?_cons_succ, List.getElem?_cons_zero]; rfl
      · kernel_rfl
      · kernel_rfl
      · kernel_rfl
      · exact fun _ _ _ h => h
      · refine Or.inl ⟨by rfl, ?_⟩
        intro w' hSw
        (try dsimp only at hSw)
        go_simp
        all_goals (with_reducible rfl)
      · assumption
      try simp only [Act.put, List.setIfInBounds_toArray, List.set_cons_zero, List.set_cons_succ]
      refine wpAnyH_take (i := 7) (oi := ?_) (v := ?_) ?_ ?_ ?_ ?_ ?_ ?_ ?_ ?_
      rotate_left 2
      · simp only [List.getElem?_toArray, List.getElem?_cons_succ, List.getElem?_cons_zero]; rfl
      · kernel_rfl
      · kernel_rfl
      · kernel_rfl
      · exact fun _ _ _ h => h
      · refine Or.inl ⟨by rfl, ?_⟩
        intro w' hSw
        (try dsimp only at hSw)
        go_simp
        all_goals (with_reducible rfl)
      · assumption
      try simp only [Act.put, List.setIfInBounds_toArray, List.set_cons_zero, List.set_cons_succ]
      refine wpAnyH_take (i := 8) (oi := ?_) (v := ?_) ?_ ?_ ?_ ?_ ?_ ?_ ?_ ?_
      rotate_left 2
      · simp only [List.getElem?_toArray, List.getElem?_cons_succ, List.getElem?_cons_zero]; rfl
      · kernel_rfl
      · kernel_rfl
      · kernel_rfl
      · exact fun _ _ _ h => h
      · refine Or.inl ⟨by rfl, ?_⟩
        intro w' hSw
        (try dsimp only at hSw)
        go_simp
        all_goals (with_reducible rfl)
      · assumption
      try simp only [Act.put, List.setIfInBounds_toArray, List.set_cons_zero, List.set_cons_succ]
      refine wpAnyH_ready (rs := [3, 9]) (by kernel_rfl) (by simp) ?_
      refine AllReadyH.cons (o := ?_) ?_ ?_ ?_
      rotate_left 1
      · simp only [List.getElem?_toArray, List.getElem?_cons_succ, List.getElem?_cons_zero]; rfl
      · skip
        intro K hK
        go_simp
        ((with_reducible refine (CK.out _).mono ?_); rintro e w6 ⟨rfl, b6⟩; have BQ6 := Lib.hid (BQ.out.keep b6); have B6 := Lib.hid (BD.out.trans (b6.mono BD.out.size)); clear b6)
        refine hK.out _ _ BQ6.out.rd (fun hHeld => ?_)
        clear hK K
        try simp only [Act.put, List.setIfInBounds_toArray, List.set_cons_zero, List.set_cons_succ]
        have BQ7 := Lib.hid (BQ6.out.alloc (.cells #[.int .i64 cn, .int .i64 ce] 2))
        have K7 := Lib.hid (heap_alloc_new w6 (.cells #[.int .i64 cn, .int .i64 ce] 2))
        have B7 := Lib.hid (B6.out.alloc B6.out.size (.cells #[.int .i64 cn, .int .i64 ce] 2))
        refine wpAnyH_take (i := 4) (oi := ?_) (v := ?_) ?_ ?_ ?_ ?_ ?_ ?_ ?_ ?_
        rotate_left 2
        · simp only [List.getElem?_toArray, List.getElem?_cons_succ, List.getElem?_cons_zero]; rfl
        · kernel_rfl
        · kernel_rfl
        · kernel_rfl
        · exact fun _ _ _ h => h
        · refine Or.inl ⟨by rfl, ?_⟩
          intro w' hSw
          (try dsimp only at hSw)
          go_simp
          all_goals (with_reducible rfl)
        · assumption
        try simp only [Act.put, List.setIfInBounds_toArray, List.set_cons_zero, List.set_cons_succ]
        refine wpAnyH_ready (rs := [9]) (by kernel_rfl) (by simp) ?_
        refine AllReadyH.cons (o := ?_) ?_ ?_ ?_
        rotate_left 1
        · simp only [List.getElem?_toArray, List.getElem?_cons_succ, List.getElem?_cons_zero]; rfl
        rotate_left 1
        · exact AllReadyH.nil
        intro K hK
        go_simp
        skip
        refine hK.out _ _ BQ7.out.rd (fun hHeld => ?_)
        clear hK K
        try simp only [Act.put, List.setIfInBounds_toArray, List.set_cons_zero, List.set_cons_succ]
        refine wpAnyH_ready (rs := [10]) (by kernel_rfl) (by simp) ?_
        refine AllReadyH.cons (o := ?_) ?_ ?_ ?_
        rotate_left 1
        · simp only [List.getElem?_toArray, List.getElem?_cons_succ, List.getElem?_cons_zero]; rfl
        rotate_left 1
        · exact AllReadyH.nil
        intro K hK
        go_simp
        ((with_reducible refine (CM.out _ _ K7.out B7.out).mono ?_); rintro e w8 ⟨rfl, b8⟩; have BQ8 := Lib.hid (BQ7.out.keep b8); have B8 := Lib.hid (B7.out.trans (b8.mono B7.out.size)); clear b8)
        refine hK.out _ _ BQ8.out.rd (fun hHeld => ?_)
        clear hK K
        try simp only [Act.put, List.setIfInBounds_toArray, List.set_cons_zero, List.set_cons_succ]
        refine wpAnyH_take (i := 11) (oi := ?_) (v := ?_) ?_ ?_ ?_ ?_ ?_ ?_ ?_ ?_
        rotate_left 2
        · simp only [List.getElem?_toArray, List.getElem?_cons_succ, List.getElem?_cons_zero]; rfl
        · kernel_rfl
        · kernel_rfl
        · kernel_rfl
        · exact fun _ _ _ h => h
        · refine Or.inl ⟨by rfl, ?_⟩
          intro w' hSw
          (try dsimp only at hSw)
          go_simp
          all_goals (with_reducible rfl)
        · assumption
        try simp only [Act.put, List.setIfInBounds_toArray, List.set_cons_zero, List.set_cons_succ]
        refine wpAnyH_take (i := 12) (oi := ?_) (v := ?_) ?_ ?_ ?_ ?_ ?_ ?_ ?_ ?_
        rotate_left 2
        · simp only [List.getElem?_toArray, List.getElem?_cons_succ, List.getElem?_cons_zero]; rfl
        · kernel_rfl
        · kernel_rfl
        · kernel_rfl
        · exact fun _ _ _ h => h
        · refine Or.inl ⟨by rfl, ?_⟩
          intro w' hSw
          (try dsimp only at hSw)
          go_simp
          all_goals (with_reducible rfl)
        · assumption
        try simp only [Act.put, List.setIfInBounds_toArray, List.set_cons_zero, List.set_cons_succ]
        refine wpAnyH_take (i := 13) (oi := ?_) (v := ?_) ?_ ?_ ?_ ?_ ?_ ?_ ?_ ?_
        rotate_left 2
        · simp only [List.getElem?_toArray, List.getElem?_cons_succ, List.getElem?_cons_zero]; rfl
        · kernel_rfl
        · kernel_rfl
        · kernel_rfl
        · exact fun _ _ _ h => h
        · refine Or.inl ⟨by rfl, ?_⟩
          intro w' hSw
          (try dsimp only at hSw)
          go_simp
          all_goals (with_reducible rfl)
        · assumption
        try simp only [Act.put, List.setIfInBounds_toArray, List.set_cons_zero, List.set_cons_succ]
        refine wpAnyH_done (by kernel_rfl) ?_ _
        clear hHeld
        go_wp2
        go_roundg (n - (i + 1))
        case measure => have := HK.out; omega
        case rel => exact ⟨i + 1, by omega, by omega, by go_num, by rw [HSS.out], B8.out⟩
      · skip
        have BQA := Lib.hid (show Blk (w3.alloc (.cells #[.int .i64 cn, .int .i64 ce] 2)).drew b3 29 (cvC s cn ce) from BQ.out.alloc _)
        have KA := Lib.hid (show Blk (w3.alloc (.cells #[.int .i64 cn, .int .i64 ce] 2)).drew w3.heap.size 2 #[.int .i64 cn, .int .i64 ce] from heap_alloc_new w3.drew _)
        have BA := Lib.hid (show Below w.heap.size w (w3.alloc (.cells #[.int .i64 cn, .int .i64 ce] 2)).drew from BD.out.alloc BD.out.size _)
        refine AllReadyH.cons (o := ?_) ?_ ?_ ?_
        rotate_left 1
        · simp only [List.getElem?_toArray, List.getElem?_cons_succ, List.getElem?_cons_zero]; rfl
        rotate_left 1
        · exact AllReadyH.nil
        intro K hK
        go_simp
        skip
        refine hK.out _ _ BQA.out.rd (fun hHeld => ?_)
        clear hK K
        try simp only [Act.put, List.setIfInBounds_toArray, List.set_cons_zero, List.set_cons_succ]
        refine wpAnyH_ready (rs := [3]) (by kernel_rfl) (by simp) ?_
        refine AllReadyH.cons (o := ?_) ?_ ?_ ?_
        rotate_left 1
        · simp only [List.getElem?_toArray, List.getElem?_cons_succ, List.getElem?_cons_zero]; rfl
        rotate_left 1
        · exact AllReadyH.nil
        intro K hK
        go_simp
        ((with_reducible refine (CK.out _).mono ?_); rintro e w6 ⟨rfl, b6⟩; have BQ6 := Lib.hid (BQA.out.keep b6); have K6 := Lib.hid (KA.out.keep b6); have B6 := Lib.hid (BA.out.trans (b6.mono BA.out.size)); clear b6)
        refine hK.out _ _ BQ6.out.rd (fun hHeld => ?_)
        clear hK K
        try simp only [Act.put, List.setIfInBounds_toArray, List.set_cons_zero, List.set_cons_succ]
        refine wpAnyH_take (i := 4) (oi := ?_) (v := ?_) ?_ ?_ ?_ ?_ ?_ ?_ ?_ ?_
        rotate_left 2
        · simp only [List.getElem?_toArray, List.getElem?_cons_succ, List.getElem?_cons_zero]; rfl
        · kernel_rfl
        · kernel_rfl
        · kernel_rfl
        · exact fun _ _ _ h => h
        · refine Or.inl ⟨by rfl, ?_⟩
          intro w' hSw
          (try dsimp only at hSw)
          go_simp
          all_goals (with_reducible rfl)
        · assumption
        try simp only [Act.put, List.setIfInBounds_toArray, List.set_cons_zero, List.set_cons_succ]
        refine wpAnyH_ready (rs := [10]) (by kernel_rfl) (by simp) ?_
        refine AllReadyH.cons (o := ?_) ?_ ?_ ?_
        rotate_left 1
        · simp only [List.getElem?_toArray, List.getElem?_cons_succ, List.getElem?_cons_zero]; rfl
        rotate_left 1
        · exact AllReadyH.nil
        intro K hK
        go_simp
        ((with_reducible refine (CM.out _ _ K6.out B6.out).mono ?_); rintro e w8 ⟨rfl, b8⟩; have BQ8 := Lib.hid (BQ6.out.keep b8); have B8 := Lib.hid (B6.out.trans (b8.mono B6.out.size)); clear b8)
        refine hK.out _ _ BQ8.out.rd (fun hHeld => ?_)
        clear hK K
        try simp only [Act.put, List.setIfInBounds_toArray, List.set_cons_zero, List.set_cons_succ]
        refine wpAnyH_take (i := 11) (oi := ?_) (v := ?_) ?_ ?_ ?_ ?_ ?_ ?_ ?_ ?_
        rotate_left 2
        · simp only [List.getElem?_toArray, List.getElem?_cons_succ, List.getElem?_cons_zero]; rfl
        · kernel_rfl
        · kernel_rfl
        · kernel_rfl
        · exact fun _ _ _ h => h
        · refine Or.inl ⟨by rfl, ?_⟩
          intro w' hSw
          (try dsimp only at hSw)
          go_simp
          all_goals (with_reducible rfl)
        · assumption
        try simp only [Act.put, List.setIfInBounds_toArray, List.set_cons_zero, List.set_cons_succ]
        refine wpAnyH_take (i := 12) (oi := ?_) (v := ?_) ?_ ?_ ?_ ?_ ?_ ?_ ?_ ?_
        rotate_left 2
        · simp only [List.getElem?_toArray, List.getElem?_cons_succ, List.getElem?_cons_zero]; rfl
        · kernel_rfl
        · kernel_rfl
        · kernel_rfl
        · exact fun _ _ _ h => h
        · refine Or.inl ⟨by rfl, ?_⟩
          intro w' hSw
          (try dsimp only at hSw)
          go_simp
          all_goals (with_reducible rfl)
        · assumption
        try simp only [Act.put, List.setIfInBounds_toArray, List.set_cons_zero, List.set_cons_succ]
        refine wpAnyH_take (i := 13) (oi := ?_) (v := ?_) ?_ ?_ ?_ ?_ ?_ ?_ ?_ ?_
        rotate_left 2
        · simp only [List.getElem?_toArray, List.getElem?_cons_succ, List.getElem?_cons_zero]; rfl
        · kernel_rfl
        · kernel_rfl
        · kernel_rfl
        · exact fun _ _ _ h => h
        · refine Or.inl ⟨by rfl, ?_⟩
          intro w' hSw
          (try dsimp only at hSw)
          go_simp
          all_goals (with_reducible rfl)
        · assumption
        try simp only [Act.put, List.setIfInBounds_toArray, List.set_cons_zero, List.set_cons_succ]
        refine wpAnyH_done (by kernel_rfl) ?_ _
        clear hHeld
        go_wp2
        go_roundg (n - (i + 1))
        case measure => have := HK.out; omega
        case rel => exact ⟨i + 1, by omega, by omega, by go_num, by rw [HSS.out], B8.out⟩
    · have hie : i = n := by omega
      subst hie
      have HE := Lib.hid (show ([116, 111, 112] ++ numsZ [ru]) ++ rowsZ (zs (ls.take i)) = [116, 111, 112] ++ (numsZ [ru] ++ rowsZ (zs ls)) from by rw [List.take_of_length_le (by rw [HL.out]; exact Nat.le_refl _), List.append_assoc])
      go_wp2
      go_ret
      exact ⟨congrArg (fun z => Ending.returned (.string (strOfNums z))) HE.out, HB.out⟩
end Go.Proofs.YtghhoofdbmgacaaDoor
