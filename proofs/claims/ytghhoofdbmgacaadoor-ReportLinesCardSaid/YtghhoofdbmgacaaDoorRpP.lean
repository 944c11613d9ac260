/- The laws of layer 21 (report), walked: lines. -/
import Derived.Test.YtghhoofdbmgacaaDoorRpO
import Derived.Test.YtghhoofdbmgacaaDoorRpJ
namespace Go.Proofs.YtghhoofdbmgacaaDoor
set_option linter.unusedSimpArgs false
set_option linter.unusedVariables false
open Go.ChangeShapes Go.WideShapes Go.ChangeAt Go.RowKit Go.Deep
theorem top7 : (⟨#[116, 111, 112, 32, 55]⟩ : ByteArray) = strOfNums ([116, 111, 112] ++ numsZ [7]) := by
  rw [numsZ, numsZ, decZ_one (by omega)]; apply ByteArray.ext; rfl
theorem lit_check6 : (⟨#[99, 104, 101, 99, 107, 32]⟩ : ByteArray) = strOfNums [99, 104, 101, 99, 107, 32] := by apply ByteArray.ext; rfl
theorem lit_peek6 : (⟨#[112, 101, 101, 107, 32]⟩ : ByteArray) = strOfNums [112, 101, 101, 107, 32] := by apply ByteArray.ext; rfl
theorem lit_stats8 : (⟨#[115, 116, 97, 116, 115, 32, 55, 32]⟩ : ByteArray) = strOfNums ([115, 116, 97, 116, 115, 32] ++ (decZ 7 ++ [32])) := by
  rw [decZ_one (by omega)]; apply ByteArray.ext; rfl
theorem vd_steps (V : Int) : ∃ (x1 x2 x3 : Int) (v : Nat), V.tmod 3 = x1 ∧ x1 + 3 = x2 ∧ x2.tmod 3 = x3 ∧ x3 + 1 = (v : Int) ∧ wrap64 x2 = x2 ∧ wrap64 (v : Int) = (v : Int) ∧ (1 ≤ x2 ∧ x2 ≤ 5) ∧ (1 ≤ v ∧ v ≤ 3) ∧ (v = 1 ∨ v = 2 ∨ v = 3) := by
  have hmid := vd_mid V
  obtain ⟨x1, hx1⟩ : ∃ x, x = V.tmod 3 := ⟨_, rfl⟩
  rw [← hx1] at hmid
  have h3 : 0 ≤ (x1 + 3).tmod 3 ∧ (x1 + 3).tmod 3 ≤ 2 := by rw [Int.tmod_eq_emod_of_nonneg (by omega)]; omega
  obtain ⟨x3, hx3⟩ : ∃ x, x = (x1 + 3).tmod 3 := ⟨_, rfl⟩
  rw [← hx3] at h3
  have hv : ((x3 + 1).toNat : Int) = x3 + 1 := by clear hx1 hx3; omega
  refine ⟨x1, x1 + 3, x3, (x3 + 1).toNat, hx1.symm, rfl, hx3.symm, hv.symm, ?_, ?_, ?_, ?_, ?_⟩
  · unfold wrap64; clear hx1 hx3; omega
  · unfold wrap64; clear hx1 hx3; omega
  · clear hx1 hx3; omega
  · clear hx1 hx3; omega
  · clear hx1 hx3; omega
set_option maxHeartbeats 32000000 in
set_option maxRecDepth 100000 in
theorem lines_law (w : World) (V rem ret a d b c wt : Int) (A : Option Addr) (n cc : Nat) (ls : List CV) (_hV : -9223372036854775808 ≤ V ∧ V ≤ 9223372036854775807) (hrem : -9223372036854775808 ≤ rem ∧ rem ≤ 9223372036854775807) (hret : -9223372036854775808 ≤ ret ∧ ret ≤ 9223372036854775807)
    (ha : -9223372036854775808 ≤ a ∧ a ≤ 9223372036854775807) (hd : -9223372036854775808 ≤ d ∧ d ≤ 9223372036854775807) (hb : -9223372036854775808 ≤ b ∧ b ≤ 9223372036854775807) (hc : -9223372036854775808 ≤ c ∧ c ≤ 9223372036854775807) (hwt : -9223372036854775808 ≤ wt ∧ wt ≤ 9223372036854775807)
    (hl : ls.length = n) (hcv : CvAt w A cc ls) (hok : ∀ x ∈ ls, x.okV) (ht : Tb w) :
    Calls Tryd.prog 3 #[.agg (ansC V rem ret), .agg (totC a d b c wt), .slice A n cc] w fun e w' => e = .returned (.bool true) ∧ Below w.heap.size w w' := by
  have hcp := hcv.cap
  rw [hl] at hcp
  have hmx := hcv.max
  unfold maxLen at hmx
  have HL := Lib.hid hl
  have HCV := Lib.hid hcv
  have HOK := Lib.hid hok
  have HT := Lib.hid ht
  have HREM := Lib.hid (show i64P rem from hrem)
  have HRET := Lib.hid (show i64P ret from hret)
  have HA := Lib.hid (show i64P a from ha)
  have HD := Lib.hid (show i64P d from hd)
  have HB' := Lib.hid (show i64P b from hb)
  have HC := Lib.hid (show i64P c from hc)
  have HW := Lib.hid (show i64P wt from hwt)
  have CF := Lib.hid (fun wx (hx : Below w.heap.size w wx) => fit_any wx (HT.out.below hx))
  obtain ⟨x1, x2, x3, v, ex1, ex2, ex3, ex4, ew2, ew4, hx2b, hvb, hv3⟩ := vd_steps V
  have HVB := Lib.hid hvb
  obtain ⟨sv, hsv⟩ : ∃ s, s = strOfNums (verZ (v : Int)) := ⟨_, rfl⟩
  have HSV := Lib.hid hsv
  have HVC := Lib.hid (show (#[Value.string ⟨#[]⟩, .string ⟨#[97, 108, 108, 111, 119]⟩, .string ⟨#[100, 101, 110, 121]⟩, .string ⟨#[99, 111, 115, 116]⟩] : Array Value)[v]? = some (.string sv) from by
    rw [hsv]
    clear ex4 ew4 hvb
    rcases hv3 with rfl | rfl | rfl
    · rw [lit_allow]; rfl
    · rw [lit_deny]; rfl
    · rw [lit_cost]; rfl)
  have zv : sv.size ≤ 5 := by rw [hsv, str_size]; exact ver_len _
  have DG : ∀ x : Int, i64P x → ∃ s : ByteArray, s = strOfNums (decZ x) ∧ s.size ≤ 20 ∧ Hid (∀ wx : World, Calls Tryd.prog 9 #[.int .i64 x] wx fun e w' => e = .returned (.string s) ∧ Below wx.heap.size wx w') :=
    fun x hx => ⟨_, rfl, by rw [str_size]; exact dec_len x hx, Lib.hid (fun wx => digits_any x hx wx)⟩
  obtain ⟨p1, hp1, zp1, CP1⟩ := DG rem HREM.out
  obtain ⟨p2, hp2, zp2, CP2⟩ := DG ret HRET.out
  obtain ⟨r1, hr1, zr1, CR1⟩ := DG a HA.out
  obtain ⟨r2, hr2, zr2, CR2⟩ := DG d HD.out
  obtain ⟨r3, hr3, zr3, CR3⟩ := DG b HB'.out
  obtain ⟨r4, hr4, zr4, CR4⟩ := DG c HC.out
  obtain ⟨r5, hr5, zr5, CR5⟩ := DG wt HW.out
  have HDG := Lib.hid DG
  obtain ⟨sp, hsp⟩ : ∃ s : ByteArray, s = ⟨#[32]⟩ := ⟨_, rfl⟩
  obtain ⟨s11, hs11⟩ : ∃ s : ByteArray, s = (((⟨#[32]⟩ : ByteArray) ++ p1) ++ (⟨#[32]⟩ : ByteArray)) ++ p2 := ⟨_, rfl⟩
  have h11 : s11 = strOfNums (numsZ [rem, ret]) := by
    rw [hs11, hp1, hp2, lit_sp, str_append, str_append, str_append]
    congr 1
    simp [numsZ]
  have z11 : s11.size ≤ 42 := by rw [h11, str_size]; exact nums_len _ (mem_two (P := i64P) HREM.out HRET.out)
  have HS11 := Lib.hid hs11.symm
  have CCK := Lib.hid (fun (wx : World) (hx : Below w.heap.size w wx) => show Calls Tryd.prog 10 #[.agg (sdC 1 0 (v : Int) rem ret 0 0 0 0 0 nilV 0)] wx (fun e w' => e = .returned (.string (((⟨#[99, 104, 101, 99, 107, 32]⟩ : ByteArray) ++ sv) ++ s11)) ∧ Below wx.heap.size wx w') from by
    have h := rsaid_ans 1 (v : Int) rem ret nilV 0 0 0 0 0 0 0 (.inl rfl) HREM.out HRET.out wx (HT.out.below hx) [99, 104, 101, 99, 107] (by rw [if_pos rfl])
    have e : ((⟨#[99, 104, 101, 99, 107, 32]⟩ : ByteArray) ++ sv) ++ s11 = strOfNums ([99, 104, 101, 99, 107] ++ (32 :: (verZ (v : Int) ++ numsZ [rem, ret]))) := by
      rw [hsv, h11, lit_check6, str_append, str_append]; congr 1 <;> simp
    rw [e]; exact h)
  have CPK := Lib.hid (fun (wx : World) (hx : Below w.heap.size w wx) => show Calls Tryd.prog 10 #[.agg (sdC 2 0 (v : Int) rem ret 0 0 0 0 0 nilV 0)] wx (fun e w' => e = .returned (.string (((⟨#[112, 101, 101, 107, 32]⟩ : ByteArray) ++ sv) ++ s11)) ∧ Below wx.heap.size wx w') from by
    have h := rsaid_ans 2 (v : Int) rem ret nilV 0 0 0 0 0 0 0 (.inr rfl) HREM.out HRET.out wx (HT.out.below hx) [112, 101, 101, 107] (by rw [if_neg (by omega)])
    have e : ((⟨#[112, 101, 101, 107, 32]⟩ : ByteArray) ++ sv) ++ s11 = strOfNums ([112, 101, 101, 107] ++ (32 :: (verZ (v : Int) ++ numsZ [rem, ret]))) := by
      rw [hsv, h11, lit_peek6, str_append, str_append]; congr 1 <;> simp
    rw [e]; exact h)
  obtain ⟨s12, hs12⟩ : ∃ s : ByteArray, s = ((((((((⟨#[115, 116, 97, 116, 115, 32, 55, 32]⟩ : ByteArray) ++ r1) ++ (⟨#[32]⟩ : ByteArray)) ++ r2) ++ (⟨#[32]⟩ : ByteArray)) ++ r3) ++ (⟨#[32]⟩ : ByteArray)) ++ r4) ++ (⟨#[32]⟩ : ByteArray) ++ r5 := ⟨_, rfl⟩
  have h12 : s12 = strOfNums ([115, 116, 97, 116, 115] ++ numsZ [7, a, d, b, c, wt]) := by
    rw [hs12, hr1, hr2, hr3, hr4, hr5, lit_sp, lit_stats8, str_append, str_append, str_append, str_append, str_append, str_append, str_append, str_append, str_append]
    congr 1
    simp [numsZ]
  have HS12 := Lib.hid hs12.symm
  have CST := Lib.hid (fun (wx : World) (hx : Below w.heap.size w wx) => show Calls Tryd.prog 10 #[.agg (sdC 3 7 0 0 0 a d b c wt nilV 0)] wx (fun e w' => e = .returned (.string s12) ∧ Below wx.heap.size wx w') from by
    rw [h12]
    exact rsaid_tot 7 a d b c wt nilV 0 0 0 0 (by unfold i64P; omega) HA.out HD.out HB'.out HC.out HW.out wx (HT.out.below hx))
  clear hl hcv hok ht hv3 hp1 hp2 hr1 hr2 hr3 hr4 hr5 hs11 h11 hs12 h12 hsv hsp hrem hret ha hd hb hc hwt _hV DG
  go_enter Tryd.func3, Tryd.ntmps3
  go_upto_region 1 with (fail)
  obtain ⟨w1, hw1, hbk, hbl, hsz1⟩ := box_new w (ansC V rem ret) 23
  obtain ⟨w2, hw2, hbk2, hbl2, hsz2⟩ := box_new w1 (totC a d b c wt) 25
  change Code.wp _ _ _ _ ((w.alloc (.cells (ansC V rem ret) 23)).alloc (.cells (totC a d b c wt) 25))
  rw [hw1, hw2]
  obtain ⟨b4, hb4⟩ : ∃ b4, b4 = w.heap.size := ⟨_, rfl⟩
  rw [← hb4] at hbk hsz1 ⊢
  rw [hsz1] at hbk2 hsz2
  have HB4 := Lib.hid hb4
  have P2 := Lib.hid (hbk.keep hbl2)
  have Q2 := Lib.hid hbk2
  have BL2 := Lib.hid (hbl.trans (hbl2.mono hbl.size))
  clear hbk hbl hsz1 hw1 hb4 hbk2 hbl2 hsz2 hw2
  go_upto_region 3 with (go_at_call 7; ((with_reducible refine (CF.out _ BL2.out).mono ?_); rintro e w3 ⟨rfl, b3⟩; have P3 := Lib.hid (P2.out.keep b3); have Q3 := Lib.hid (Q2.out.keep b3); have BL3 := Lib.hid (BL2.out.trans (b3.mono BL2.out.size)); clear b3))
  by_cases h64 : (64 : Int) < (n : Int)
  · go_wp2
    go_ret
    exact ⟨rfl, BL3.out⟩
  have HN64 := Lib.hid (show n ≤ 64 from by omega)
  go_upto_region 5 with (fail)
  have k3 := P3.out.rd
  have q3 := P3.out.wr
  go_upto_region 6 with (fail)
  have P4 := Lib.hid (show Blk (w3.setCell ⟨b4, 0, none⟩ (.int .i64 (v : Int))) b4 23 (ansC (v : Int) rem ret) from by rw [setCell_obj P3.out]; exact setObj_at (lt_of_block P3.out) _)
  have FR4 := Lib.hid (fr_set (i := 0) (v := .int .i64 (v : Int)) P3.out)
  obtain ⟨w4, hw4⟩ : ∃ w4, w4 = (w3.setCell ⟨b4, 0, none⟩ (.int .i64 (v : Int))) := ⟨_, rfl⟩
  rw [← hw4] at P4 FR4 ⊢
  have Q4 := Lib.hid (Q3.out.fr FR4.out (by omega))
  have BL4 := Lib.hid (BL3.out.trans (FR4.out.below BL3.out.size (fun k hk => by have := HB4.out; omega)))
  clear hw4 k3 q3
  go_upto_region 8 with (fail)
  rw [top7]
  go_loopg [7, 27] n (fun k s7 s27 wr => ∃ i : Nat, i ≤ n ∧ k = n - i ∧ s27 = .int .i64 (i : Int) ∧ s7 = .string (strOfNums (([116, 111, 112] ++ numsZ [7]) ++ rowsZ (zs (ls.take i)))) ∧ (∀ (j : Nat) (h : j < ls.length), j < i → (ls[j]).s.size ≤ 64) ∧ Below w4.heap.size w4 wr)
  case atStart => exact ⟨0, by omega, by omega, rfl, by simp [zs, rowsZ], (fun j h h2 => absurd h2 (by omega)), Below.refl _ _⟩
  case round =>
    obtain ⟨i, hi, hkk, rfl, rfl, hsm, hb⟩ := hrel
    have HK := Lib.hid hkk
    have HX := Lib.hid hb
    have HSM := Lib.hid hsm
    have HB := Lib.hid (show Below w.heap.size w wr from BL4.out.trans (hb.mono BL4.out.size))
    clear hkk hb hsm
    by_cases hin : i < n
    · have hil : i < ls.length := by rw [HL.out]; exact hin
      have HNX := Lib.hid (zs_snoc hil)
      have hca := HOK.out _ (List.getElem_mem hil)
      obtain ⟨g, off, e', hlt, hc⟩ := (HCV.out.below HB.out).at_ (by omega)
      subst e'
      have c0 := hc i hil 0 (by omega)
      have c1 := hc i hil 1 (by omega)
      have c2 := hc i hil 2 (by omega)
      have HSN := Lib.hid (fun (h : (ls[i]).s.size ≤ 64) => show ∀ (j : Nat) (hj : j < ls.length), j < i + 1 → (ls[j]).s.size ≤ 64 from fun j hj hji => by
        by_cases hjj : j = i
        · subst hjj; exact h
        · exact HSM.out j hj (by omega))
      have HRL := Lib.hid (fun (h : (ls[i]).s.size ≤ 64) => show (rowsZ (zs (ls.take i))).length ≤ 200 * ls.length from by
        have := rows_len (zs (ls.take i)) (fun x hx => by
          obtain ⟨a, ha, rfl⟩ := List.mem_map.1 hx
          obtain ⟨j, hj, rfl⟩ := List.getElem_of_mem ha
          rw [List.length_take] at hj
          rw [List.getElem_take]
          exact CV.ok (HOK.out _ (List.getElem_mem (by omega))) (HSM.out j (by omega) (by omega)))
        rw [zs_length, List.length_take] at this
        omega)
      obtain ⟨x, haa⟩ : ∃ x, x = ls[i] := ⟨_, rfl⟩
      rw [← haa] at c0 c1 c2 HNX hca HSN HRL
      obtain ⟨s, cn, ce⟩ := x
      have hss : s.size ≤ maxLen := hca.1
      have hcn : i64P cn := hca.2.1
      have hce : i64P ce := hca.2.2
      unfold maxLen at hss
      simp [CV.cells] at c0 c1 c2
      clear haa hc hlt hca
      go_upto_region 10 with (fail)
      clear c0 c1 c2
      obtain ⟨w5, hw5, hbk, hbl, hsz5⟩ := box_new wr (cvC s cn ce) 29
      change Code.wp _ _ _ _ (wr.alloc (.cells (cvC s cn ce) 29))
      rw [hw5]
      obtain ⟨b3, hb3⟩ : ∃ b3, b3 = wr.heap.size := ⟨_, rfl⟩
      rw [← hb3] at hbk ⊢
      have B5 := Lib.hid (HX.out.trans (hbl.mono HX.out.size))
      have BQ := Lib.hid (show Blk w5.drew b3 29 (cvC s cn ce) from hbk.drew)
      have BD := Lib.hid (show Below w4.heap.size w4 w5.drew from below_draws B5.out 1)
      have k5 := hbk.rd
      have y1 : ∀ j, w5.drew.cell? ⟨b3, j, none⟩ = (cvC s cn ce)[j]? := hbk.drew.rd
      clear hw5 hbk hbl hsz5 hb3
      by_cases hs64 : (64 : Int) < (s.size : Int)
      · clear y1
        go_wp2
        go_ret
        exact ⟨rfl, BL4.out.trans (B5.out.mono BL4.out.size)⟩
      · have hs6 : s.size ≤ 64 := by clear y1; omega
        have HSN2 := Lib.hid (HSN.out hs6)
        have HRL2 := Lib.hid (HRL.out hs6)
        clear HSN HRL
        obtain ⟨sl, hsl⟩ : ∃ z, z = strOfNums (([116, 111, 112] ++ numsZ [7]) ++ rowsZ (zs (ls.take i))) := ⟨_, rfl⟩
        have zl : sl.size ≤ 60000 := by
          have h1 := HRL2.out
          have h2 := nums_len [7] (mem_one (P := i64P) (by unfold i64P; omega))
          rw [hsl, str_size, List.length_append, List.length_append]
          have h3 := HN64.out
          have h4 := HL.out
          simp only [List.length_cons, List.length_nil] at h2 ⊢
          clear y1
          omega
        obtain ⟨sk, hsk⟩ : ∃ z, z = strOfNums (keyZ (nums s)) := ⟨_, rfl⟩
        have zk : sk.size ≤ 129 := by rw [hsk, str_size]; have := key_len (nums s); rw [nums_length] at this; clear y1; omega
        obtain ⟨d1, hd1, zd1, CD1⟩ := HDG.out cn hcn
        obtain ⟨d2, hd2, zd2, CD2⟩ := HDG.out ce hce
        have CK := Lib.hid (fun wx => show Calls Tryd.prog 8 #[.string s] wx (fun e w' => e = .returned (.string sk) ∧ Below wx.heap.size wx w') from by rw [hsk]; exact lhex_any s hs6 wx)
        have HSS := Lib.hid (show sl ++ (((((⟨#[32]⟩ : ByteArray) ++ sk) ++ (⟨#[32]⟩ : ByteArray)) ++ d1) ++ (⟨#[32]⟩ : ByteArray) ++ d2) = strOfNums (([116, 111, 112] ++ numsZ [7]) ++ rowsZ (zs (ls.take (i + 1)))) from by
          rw [hsl, hsk, hd1, hd2, lit_sp, str_append, str_append, str_append, str_append, str_append, str_append, HNX.out, rowsZ_app]
          congr 1
          simp [rowsZ, numsZ, CV.z])
        have q1 : (9223372036854775807 < 1 + sk.size) = False := eq_false (by clear y1; omega)
        have q2 : (9223372036854775807 < 1 + sk.size + 1) = False := eq_false (by clear y1; omega)
        have q3 : (9223372036854775807 < 1 + sk.size + 1 + d1.size) = False := eq_false (by clear y1; omega)
        have q4 : (9223372036854775807 < 1 + sk.size + 1 + d1.size + 1) = False := eq_false (by clear y1; omega)
        have q5 : (9223372036854775807 < 1 + sk.size + 1 + d1.size + 1 + d2.size) = False := eq_false (by clear y1; omega)
        have q6 : (9223372036854775807 < sl.size + (1 + sk.size + 1 + d1.size + 1 + d2.size)) = False := eq_false (by clear y1; omega)
        rw [← hsl]
        clear hsl hsk hd1 hd2 hcn hce hs6
        go_upto_region 12 with (fail)
        clear k5
        refine wp_region_held_drew (S := fun w' => ∀ j, w'.cell? ⟨b3, j, none⟩ = (cvC s cn ce)[j]?) (by kernel_rfl) y1 (fun hHeld => ?_)
        clear y1
        refine wpAnyH_take (i := 0) (oi := ?_) (v := ?_) ?_ ?_ ?_ ?_ ?_ ?_ ?_ ?_
        rotate_left 2
        · simp only [List.getElem?_toArray, List.getElem?_cons_succ, List.getElem?_cons_zero]; rfl
        · kernel_rfl
        · kernel_rfl
        · kernel_rfl
        · exact fun _ _ _ h => h
        · refine Or.inl ⟨by rfl, ?_⟩
          intro w' hSw
          (try dsimp only at hSw)
          go_simp
          all_goals (with_reducible rfl)
        · assumption
        try simp only [Act.put, List.setIfInBounds_toArray, List.set_cons_zero, List.set_cons_succ]
        refine wpAnyH_take (i := 1) (oi := ?_) (v := ?_) ?_ ?_ ?_ ?_ ?_ ?_ ?_ ?_
        rotate_left 2
        · simp only [List.getElem?_toArray, List.getElem?_cons_succ, List.getElem?_cons_zero]; rfl
        · kernel_rfl
        · kernel_rfl
        · kernel_rfl
        · exact fun _ _ _ h => h
        · refine Or.inl ⟨by rfl, ?_⟩
          intro w' hSw
          (try dsimp only at hSw)
          go_simp
          all_goals (with_reducible rfl)
        · assumption
        try simp only [Act.put, List.setIfInBounds_toArray, List.set_cons_zero, List.set_cons_succ]
        refine wpAnyH_take (i := 2) (oi := ?_) (v := ?_) ?_ ?_ ?_ ?_ ?_ ?_ ?_ ?_
        rotate_left 2
        · simp only [List.getElem?_toArray, List.getElem?_cons_succ, List.getElem?_cons_zero]; rfl
        · kernel_rfl
        · kernel_rfl
        · kernel_rfl
        · exact fun _ _ _ h => h
        · refine Or.inl ⟨by rfl, ?_⟩
          intro w' hSw
          (try dsimp only at hSw)
          go_simp
          all_goals (with_reducible rfl)
        · assumption
        try simp only [Act.put, List.setIfInBounds_toArray, List.set_cons_zero, List.set_cons_succ]
        refine wpAnyH_take (i := 6) (oi := ?_) (v := ?_) ?_ ?_ ?_ ?_ ?_ ?_ ?_ ?_
        rotate_left 2
        · simp only [List.getElem?_toArray, List.getElem?_cons_succ, List.getElem?_cons_zero]; rfl
        · kernel_rfl
        · kernel_rfl
        · kernel_rfl
        · exact fun _ _ _ h => h
        · refine Or.inl ⟨by rfl, ?_⟩
          intro w' hSw
          (try dsimp only at hSw)
          go_simp
          all_goals (with_reducible rfl)
        · assumption
        try simp only [Act.put, List.setIfInBounds_toArray, List.set_cons_zero, List.set_cons_succ]
        refine wpAnyH_take (i := 7) (oi := ?_) (v := ?_) ?_ ?_ ?_ ?_ ?_ ?_ ?_ ?_
        rotate_left 2
        · simp only [List.getElem?_toArray, List.getElem?_cons_succ, List.getElem?_cons_zero]; rfl
        · kernel_rfl
        · kernel_rfl
        · kernel_rfl
        · exact fun _ _ _ h => h
        · refine Or.inl ⟨by rfl, ?_⟩
          intro w' hSw
          (try dsimp only at hSw)
          go_simp
          all_goals (with_reducible rfl)
        · assumption
        try simp only [Act.put, List.setIfInBounds_toArray, List.set_cons_zero, List.set_cons_succ]
        refine wpAnyH_take (i := 11) (oi := ?_) (v := ?_) ?_ ?_ ?_ ?_ ?_ ?_ ?_ ?_
        rotate_left 2
        · simp only [List.getElem?_toArray, List.getElem?_cons_succ, List.getElem?_cons_zero]; rfl
        · kernel_rfl
        · kernel_rfl
        · kernel_rfl
        · exact fun _ _ _ h => h
        · refine Or.inl ⟨by rfl, ?_⟩
          intro w' hSw
          (try dsimp only at hSw)
          go_simp
          all_goals (with_reducible rfl)
        · assumption
        try simp only [Act.put, List.setIfInBounds_toArray, List.set_cons_zero, List.set_cons_succ]
        refine wpAnyH_take (i := 12) (oi := ?_) (v := ?_) ?_ ?_ ?_ ?_ ?_ ?_ ?_ ?_
        rotate_left 2
        · simp only [List.getElem?_toArray, List.getElem?_cons_succ, List.getElem?_cons_zero]; rfl
        · kernel_rfl
        · kernel_rfl
        · kernel_rfl
        · exact fun _ _ _ h => h
        · refine Or.inl ⟨by rfl, ?_⟩
          intro w' hSw
          (try dsimp only at hSw)
          go_simp
          all_goals (with_reducible rfl)
        · assumption
        try simp only [Act.put, List.setIfInBounds_toArray, List.set_cons_zero, List.set_cons_succ]
        refine wpAnyH_ready (rs := [3]) (by kernel_rfl) (by simp) ?_
        refine AllReadyH.cons (o := ?_) ?_ ?_ ?_
        rotate_left 1
        · simp only [List.getElem?_toArray, List.getElem?_cons_succ, List.getElem?_cons_zero]; rfl
        rotate_left 1
        · exact AllReadyH.nil
        intro K hK
        go_simp
        ((with_reducible refine (CK.out _).mono ?_); rintro e w6 ⟨rfl, b6⟩; have BQ6 := Lib.hid (BQ.out.keep b6); have B6 := Lib.hid (BD.out.trans (b6.mono BD.out.size)); clear b6)
        refine hK.out _ _ BQ6.out.rd (fun hHeld => ?_)
        clear hK K
        try simp only [Act.put, List.setIfInBounds_toArray, List.set_cons_zero, List.set_cons_succ]
        refine wpAnyH_take (i := 4) (oi := ?_) (v := ?_) ?_ ?_ ?_ ?_ ?_ ?_ ?_ ?_
        rotate_left 2
        · simp only [List.getElem?_toArray, List.getElem?_cons_succ, List.getElem?_cons_zero]; rfl
        · kernel_rfl
        · kernel_rfl
        · kernel_rfl
        · exact fun _ _ _ h => h
        · refine Or.inl ⟨by rfl, ?_⟩
          intro w' hSw
          (try dsimp only at hSw)
          go_simp
          all_goals (with_reducible rfl)
        · assumption
        try simp only [Act.put, List.setIfInBounds_toArray, List.set_cons_zero, List.set_cons_succ]
        refine wpAnyH_take (i := 5) (oi := ?_) (v := ?_) ?_ ?_ ?_ ?_ ?_ ?_ ?_ ?_
        rotate_left 2
        · simp only [List.getElem?_toArray, List.getElem?_cons_succ, List.getElem?_cons_zero]; rfl
        · kernel_rfl
        · kernel_rfl
        · kernel_rfl
        · exact fun _ _ _ h => h
        · refine Or.inl ⟨by rfl, ?_⟩
          intro w' hSw
          (try dsimp only at hSw)
          go_simp
          all_goals (with_reducible rfl)
        · assumption
        try simp only [Act.put, List.setIfInBounds_toArray, List.set_cons_zero, List.set_cons_succ]
        refine wpAnyH_ready (rs := [8]) (by kernel_rfl) (by simp) ?_
        refine AllReadyH.cons (o := ?_) ?_ ?_ ?_
        rotate_left 1
        · simp only [List.getElem?_toArray, List.getElem?_cons_succ, List.getElem?_cons_zero]; rfl
        rotate_left 1
        · exact AllReadyH.nil
        intro K hK
        go_simp
        ((with_reducible refine (CD1.out _).mono ?_); rintro e w7 ⟨rfl, b7⟩; have BQ7 := Lib.hid (BQ6.out.keep b7); have B7 := Lib.hid (B6.out.trans (b7.mono B6.out.size)); clear b7)
        refine hK.out _ _ BQ7.out.rd (fun hHeld => ?_)
        clear hK K
        try simp only [Act.put, List.setIfInBounds_toArray, List.set_cons_zero, List.set_cons_succ]
        refine wpAnyH_take (i := 9) (oi := ?_) (v := ?_) ?_ ?_ ?_ ?_ ?_ ?_ ?_ ?_
        rotate_left 2
        · simp only [List.getElem?_toArray, List.getElem?_cons_succ, List.getElem?_cons_zero]; rfl
        · kernel_rfl
        · kernel_rfl
        · kernel_rfl
        · exact fun _ _ _ h => h
        · refine Or.inl ⟨by rfl, ?_⟩
          intro w' hSw
          (try dsimp only at hSw)
          go_simp
          all_goals (with_reducible rfl)
        · assumption
        try simp only [Act.put, List.setIfInBounds_toArray, List.set_cons_zero, List.set_cons_succ]
        refine wpAnyH_take (i := 10) (oi := ?_) (v := ?_) ?_ ?_ ?_ ?_ ?_ ?_ ?_ ?_
        rotate_left 2
        · simp only [List.getElem?_toArray, List.getElem?_cons_succ, List.getElem?_cons_zero]; rfl
        · kernel_rfl
        · kernel_rfl
        · kernel_rfl
        · exact fun _ _ _ h => h
        · refine Or.inl ⟨by rfl, ?_⟩
          intro w' hSw
          (try dsimp only at hSw)
          go_simp
          all_goals (with_reducible rfl)
        · assumption
        try simp only [Act.put, List.setIfInBounds_toArray, List.set_cons_zero, List.set_cons_succ]
        refine wpAnyH_ready (rs := [13]) (by kernel_rfl) (by simp) ?_
        refine AllReadyH.cons (o := ?_) ?_ ?_ ?_
        rotate_left 1
        · simp only [List.getElem?_toArray, List.getElem?_cons_succ, List.getElem?_cons_zero]; rfl
        rotate_left 1
        · exact AllReadyH.nil
        intro K hK
        go_simp
        ((with_reducible refine (CD2.out _).mono ?_); rintro e w8 ⟨rfl, b8⟩; have BQ8 := Lib.hid (BQ7.out.keep b8); have B8 := Lib.hid (B7.out.trans (b8.mono B7.out.size)); clear b8)
        refine hK.out _ _ BQ8.out.rd (fun hHeld => ?_)
        clear hK K
        try simp only [Act.put, List.setIfInBounds_toArray, List.set_cons_zero, List.set_cons_succ]
        refine wpAnyH_take (i := 14) (oi := ?_) (v := ?_) ?_ ?_ ?_ ?_ ?_ ?_ ?_ ?_
        rotate_left 2
        · simp only [List.getElem?_toArray, List.getElem?_cons_succ, List.getElem?_cons_zero]; rfl
        · kernel_rfl
        · kernel_rfl
        · kernel_rfl
        · exact fun _ _ _ h => h
        · refine Or.inl ⟨by rfl, ?_⟩
          intro w' hSw
          (try dsimp only at hSw)
          go_simp
          all_goals (with_reducible rfl)
        · assumption
        try simp only [Act.put, List.setIfInBounds_toArray, List.set_cons_zero, List.set_cons_succ]
        refine wpAnyH_take (i := 15) (oi := ?_) (v := ?_) ?_ ?_ ?_ ?_ ?_ ?_ ?_ ?_
        rotate_left 2
        · simp only [List.getElem?_toArray, List.getElem?_cons_succ, List.getElem?_cons_zero]; rfl
        · kernel_rfl
        · kernel_rfl
        · kernel_rfl
        · exact fun _ _ _ h => h
        · refine Or.inl ⟨by rfl, ?_⟩
          intro w' hSw
          (try dsimp only at hSw)
          go_simp
          all_goals (with_reducible rfl)
        · assumption
        try simp only [Act.put, List.setIfInBounds_toArray, List.set_cons_zero, List.set_cons_succ]
        refine wpAnyH_take (i := 16) (oi := ?_) (v := ?_) ?_ ?_ ?_ ?_ ?_ ?_ ?_ ?_
        rotate_left 2
        · simp only [List.getElem?_toArray, List.getElem?_cons_succ, List.getElem?_cons_zero]; rfl
        · kernel_rfl
        · kernel_rfl
        · kernel_rfl
        · exact fun _ _ _ h => h
        · refine Or.inl ⟨by rfl, ?_⟩
          intro w' hSw
          (try dsimp only at hSw)
          go_simp
          all_goals (with_reducible rfl)
        · assumption
        try simp only [Act.put, List.setIfInBounds_toArray, List.set_cons_zero, List.set_cons_succ]
        refine wpAnyH_done (by kernel_rfl) ?_ _
        clear hHeld
        go_wp2
        go_roundg (n - (i + 1))
        case measure => have := HK.out; omega
        case rel => exact ⟨i + 1, by omega, by omega, by go_num, by rw [HSS.out], HSN2.out, B8.out⟩
    · have hie : n = i := by omega
      subst hie
      have HOKS := Lib.hid (show oks (zs ls) from zs_ok HOK.out (fun a ha => by
        obtain ⟨j, hj, rfl⟩ := List.getElem_of_mem ha
        exact HSM.out j hj (by have := HL.out; omega)))
      have HF := Lib.hid (show ls.take n = ls from List.take_of_length_le (by rw [HL.out]; exact Nat.le_refl _))
      rw [HF.out]
      obtain ⟨s7, hs7⟩ : ∃ z, z = strOfNums (([116, 111, 112] ++ numsZ [7]) ++ rowsZ (zs ls)) := ⟨_, rfl⟩
      have CTP := Lib.hid (fun (wx : World) (hx : Below w.heap.size w wx) => show Calls Tryd.prog 10 #[.agg (sdC 4 7 0 0 0 0 0 0 0 0 (.slice A n cc) 0)] wx (fun e w' => e = .returned (.string s7) ∧ Below wx.heap.size wx w') from by
        have h := rsaid_top 7 A cc ls 0 0 0 0 0 0 0 0 0 (by unfold i64P; omega) (by have := HN64.out; have := HL.out; omega) HOKS.out wx (HT.out.below hx) (HCV.out.below hx)
        rw [HL.out] at h
        rw [hs7, List.append_assoc]
        exact h)
      rw [← hs7]
      clear hs7
      have P5 := Lib.hid (P4.out.keep HX.out)
      have Q5 := Lib.hid (Q4.out.keep HX.out)
      have P6 := Lib.hid (P5.out.alloc (.cells #[.string ⟨#[]⟩, .string ⟨#[97, 108, 108, 111, 119]⟩, .string ⟨#[100, 101, 110, 121]⟩, .string ⟨#[99, 111, 115, 116]⟩] 9))
      have Q6 := Lib.hid (Q5.out.alloc (.cells #[.string ⟨#[]⟩, .string ⟨#[97, 108, 108, 111, 119]⟩, .string ⟨#[100, 101, 110, 121]⟩, .string ⟨#[99, 111, 115, 116]⟩] 9))
      have BL6 := Lib.hid (HB.out.alloc HB.out.size (.cells #[.string ⟨#[]⟩, .string ⟨#[97, 108, 108, 111, 119]⟩, .string ⟨#[100, 101, 110, 121]⟩, .string ⟨#[99, 111, 115, 116]⟩] 9))
      have k6 := P6.out.rd
      have kv := ((show Blk (wr.alloc (.cells #[.string ⟨#[]⟩, .string ⟨#[97, 108, 108, 111, 119]⟩, .string ⟨#[100, 101, 110, 121]⟩, .string ⟨#[99, 111, 115, 116]⟩] 9)) wr.heap.size 9 #[.string ⟨#[]⟩, .string ⟨#[97, 108, 108, 111, 119]⟩, .string ⟨#[100, 101, 110, 121]⟩, .string ⟨#[99, 111, 115, 116]⟩] from heap_alloc_new wr _).rd v).trans HVC.out
      have hv4 : (v : Int) < 4 := by have := HVB.out; omega
      go_upto_region 15 with (fail)
      clear kv k6
      obtain ⟨w6, hw6⟩ : ∃ w6, w6 = wr.alloc (.cells #[.string ⟨#[]⟩, .string ⟨#[97, 108, 108, 111, 119]⟩, .string ⟨#[100, 101, 110, 121]⟩, .string ⟨#[99, 111, 115, 116]⟩] 9) := ⟨_, rfl⟩
      rw [← hw6] at P6 Q6 BL6 ⊢
      have PD := Lib.hid (show Blk w6.drew b4 23 (ansC (v : Int) rem ret) from P6.out.drew)
      have QD := Lib.hid (show Blk w6.drew (b4 + 1) 25 (totC a d b c wt) from Q6.out.drew)
      have BD := Lib.hid (show Below w.heap.size w w6.drew from below_draws BL6.out 1)
      have qa1 : (9223372036854775807 < 1 + p1.size) = False := eq_false (by omega)
      have qa2 : (9223372036854775807 < 1 + p1.size + 1) = False := eq_false (by omega)
      have qa3 : (9223372036854775807 < 1 + p1.size + 1 + p2.size) = False := eq_false (by omega)
      have y1 : ∀ j, w6.drew.cell? ⟨b4, j, none⟩ = (ansC (v : Int) rem ret)[j]? := PD.out.rd
      clear hw6
      refine wp_region_held_drew (S := fun w' => ∀ j, w'.cell? ⟨b4, j, none⟩ = (ansC (v : Int) rem ret)[j]?) (by kernel_rfl) y1 (fun hHeld => ?_)
      clear y1
      refine wpAnyH_take (i := 0) (oi := ?_) (v := ?_) ?_ ?_ ?_ ?_ ?_ ?_ ?_ ?_
      rotate_left 2
      · simp only [List.getElem?_toArray, List.getElem?_cons_succ, List.getElem?_cons_zero]; rfl
      · kernel_rfl
      · kernel_rfl
      · kernel_rfl
      · exact fun _ _ _ h => h
      · refine Or.inl ⟨by rfl, ?_⟩
        intro w' hSw
        (try dsimp only at hSw)
        go_simp
        all_goals (with_reducible rfl)
      · assumption
      try simp only [Act.put, List.setIfInBounds_toArray, List.set_cons_zero, List.set_cons_succ]
      refine wpAnyH_take (i := 1) (oi := ?_) (v := ?_) ?_ ?_ ?_ ?_ ?_ ?_ ?_ ?_
      rotate_left 2
      · simp only [List.getElem?_toArray, List.getElem?_cons_succ, List.getElem?_cons_zero]; rfl
      · kernel_rfl
      · kernel_rfl
      · kernel_rfl
      · exact fun _ _ _ h => h
      · refine Or.inl ⟨by rfl, ?_⟩
        intro w' hSw
        (try dsimp only at hSw)
        go_simp
        all_goals (with_reducible rfl)
      · assumption
      try simp only [Act.put, List.setIfInBounds_toArray, List.set_cons_zero, List.set_cons_succ]
      refine wpAnyH_take (i := 5) (oi := ?_) (v := ?_) ?_ ?_ ?_ ?_ ?_ ?_ ?_ ?_
      rotate_left 2
      · simp only [List.getElem?_toArray, List.getElem?_cons_succ, List.getElem?_cons_zero]; rfl
      · kernel_rfl
      · kernel_rfl
      · kernel_rfl
      · exact fun _ _ _ h => h
      · refine Or.inl ⟨by rfl, ?_⟩
        intro w' hSw
        (try dsimp only at hSw)
        go_simp
        all_goals (with_reducible rfl)
      · assumption
      try simp only [Act.put, List.setIfInBounds_toArray, List.set_cons_zero, List.set_cons_succ]
      refine wpAnyH_take (i := 6) (oi := ?_) (v := ?_) ?_ ?_ ?_ ?_ ?_ ?_ ?_ ?_
      rotate_left 2
      · simp only [List.getElem?_toArray, List.getElem?_cons_succ, List.getElem?_cons_zero]; rfl
      · kernel_rfl
      · kernel_rfl
      · kernel_rfl
      · exact fun _ _ _ h => h
      · refine Or.inl ⟨by rfl, ?_⟩
        intro w' hSw
        (try dsimp only at hSw)
        go_simp
        all_goals (with_reducible rfl)
      · assumption
      try simp only [Act.put, List.setIfInBounds_toArray, List.set_cons_zero, List.set_cons_succ]
      refine wpAnyH_ready (rs := [2]) (by kernel_rfl) (by simp) ?_
      refine AllReadyH.cons (o := ?_) ?_ ?_ ?_
      rotate_left 1
      · simp only [List.getElem?_toArray, List.getElem?_cons_succ, List.getElem?_cons_zero]; rfl
      rotate_left 1
      · exact AllReadyH.nil
      intro K hK
      go_simp
      ((with_reducible refine (CP1.out _).mono ?_); rintro e we ⟨rfl, be⟩; have PE := Lib.hid (PD.out.keep be); have QE := Lib.hid (QD.out.keep be); have BE := Lib.hid (BD.out.trans (be.mono BD.out.size)); clear be)
      refine hK.out _ _ PE.out.rd (fun hHeld => ?_)
      clear hK K
      try simp only [Act.put, List.setIfInBounds_toArray, List.set_cons_zero, List.set_cons_succ]
      refine wpAnyH_take (i := 3) (oi := ?_) (v := ?_) ?_ ?_ ?_ ?_ ?_ ?_ ?_ ?_
      rotate_left 2
      · simp only [List.getElem?_toArray, List.getElem?_cons_succ, List.getElem?_cons_zero]; rfl
      · kernel_rfl
      · kernel_rfl
      · kernel_rfl
      · exact fun _ _ _ h => h
      · refine Or.inl ⟨by rfl, ?_⟩
        intro w' hSw
        (try dsimp only at hSw)
        go_simp
        all_goals (with_reducible rfl)
      · assumption
      try simp only [Act.put, List.setIfInBounds_toArray, List.set_cons_zero, List.set_cons_succ]
      refine wpAnyH_take (i := 4) (oi := ?_) (v := ?_) ?_ ?_ ?_ ?_ ?_ ?_ ?_ ?_
      rotate_left 2
      · simp only [List.getElem?_toArray, List.getElem?_cons_succ, List.getElem?_cons_zero]; rfl
      · kernel_rfl
      · kernel_rfl
      · kernel_rfl
      · exact fun _ _ _ h => h
      · refine Or.inl ⟨by rfl, ?_⟩
        intro w' hSw
        (try dsimp only at hSw)
        go_simp
        all_goals (with_reducible rfl)
      · assumption
      try simp only [Act.put, List.setIfInBounds_toArray, List.set_cons_zero, List.set_cons_succ]
      refine wpAnyH_ready (rs := [7]) (by kernel_rfl) (by simp) ?_
      refine AllReadyH.cons (o := ?_) ?_ ?_ ?_
      rotate_left 1
      · simp only [List.getElem?_toArray, List.getElem?_cons_succ, List.getElem?_cons_zero]; rfl
      rotate_left 1
      · exact AllReadyH.nil
      intro K hK
      go_simp
      ((with_reducible refine (CP2.out _).mono ?_); rintro e wf ⟨rfl, bf⟩; have PF := Lib.hid (PE.out.keep bf); have QF := Lib.hid (QE.out.keep bf); have BF := Lib.hid (BE.out.trans (bf.mono BE.out.size)); clear bf)
      refine hK.out _ _ PF.out.rd (fun hHeld => ?_)
      clear hK K
      try simp only [Act.put, List.setIfInBounds_toArray, List.set_cons_zero, List.set_cons_succ]
      refine wpAnyH_take (i := 8) (oi := ?_) (v := ?_) ?_ ?_ ?_ ?_ ?_ ?_ ?_ ?_
      rotate_left 2
      · simp only [List.getElem?_toArray, List.getElem?_cons_succ, List.getElem?_cons_zero]; rfl
      · kernel_rfl
      · kernel_rfl
      · kernel_rfl
      · exact fun _ _ _ h => h
      · refine Or.inl ⟨by rfl, ?_⟩
        intro w' hSw
        (try dsimp only at hSw)
        go_simp
        all_goals (with_reducible rfl)
      · assumption
      try simp only [Act.put, List.setIfInBounds_toArray, List.set_cons_zero, List.set_cons_succ]
      refine wpAnyH_take (i := 9) (oi := ?_) (v := ?_) ?_ ?_ ?_ ?_ ?_ ?_ ?_ ?_
      rotate_left 2
      · simp only [List.getElem?_toArray, List.getElem?_cons_succ, List.getElem?_cons_zero]; rfl
      · kernel_rfl
      · kernel_rfl
      · kernel_rfl
      · exact fun _ _ _ h => h
      · refine Or.inl ⟨by rfl, ?_⟩
        intro w' hSw
        (try dsimp only at hSw)
        go_simp
        all_goals (with_reducible rfl)
      · assumption
      try simp only [Act.put, List.setIfInBounds_toArray, List.set_cons_zero, List.set_cons_succ]
      refine wpAnyH_done (by kernel_rfl) ?_ _
      clear hHeld
      rw [HS11.out]
      go_upto_region 16 with (fail)
      have PG := Lib.hid (show Blk wf.drew b4 23 (ansC (v : Int) rem ret) from PF.out.drew)
      have QG := Lib.hid (show Blk wf.drew (b4 + 1) 25 (totC a d b c wt) from QF.out.drew)
      have BG := Lib.hid (show Below w.heap.size w wf.drew from below_draws BF.out 1)
      have qb1 : (9223372036854775807 < 8 + r1.size) = False := eq_false (by omega)
      have qb2 : (9223372036854775807 < 8 + r1.size + 1) = False := eq_false (by omega)
      have qb3 : (9223372036854775807 < 8 + r1.size + 1 + r2.size) = False := eq_false (by omega)
      have qb4 : (9223372036854775807 < 8 + r1.size + 1 + r2.size + 1) = False := eq_false (by omega)
      have qb5 : (9223372036854775807 < 8 + r1.size + 1 + r2.size + 1 + r3.size) = False := eq_false (by omega)
      have qb6 : (9223372036854775807 < 8 + r1.size + 1 + r2.size + 1 + r3.size + 1) = False := eq_false (by omega)
      have qb7 : (9223372036854775807 < 8 + r1.size + 1 + r2.size + 1 + r3.size + 1 + r4.size) = False := eq_false (by omega)
      have qb8 : (9223372036854775807 < 8 + r1.size + 1 + r2.size + 1 + r3.size + 1 + r4.size + 1) = False := eq_false (by omega)
      have qb9 : (9223372036854775807 < 8 + r1.size + 1 + r2.size + 1 + r3.size + 1 + r4.size + 1 + r5.size) = False := eq_false (by omega)
      have y2 : ∀ j, wf.drew.cell? ⟨b4 + 1, j, none⟩ = (totC a d b c wt)[j]? := QG.out.rd
      refine wp_region_held_drew (S := fun w' => ∀ j, w'.cell? ⟨b4 + 1, j, none⟩ = (totC a d b c wt)[j]?) (by kernel_rfl) y2 (fun hHeld => ?_)
      clear y2
      refine wpAnyH_take (i := 0) (oi := ?_) (v := ?_) ?_ ?_ ?_ ?_ ?_ ?_ ?_ ?_
      rotate_left 2
      · simp only [List.getElem?_toArray, List.getElem?_cons_succ, List.getElem?_cons_zero]; rfl
      · kernel_rfl
      · kernel_rfl
      · kernel_rfl
      · exact fun _ _ _ h => h
      · refine Or.inl ⟨by rfl, ?_⟩
        intro w' hSw
        (try dsimp only at hSw)
        go_simp
        all_goals (with_reducible rfl)
      · assumption
      try simp only [Act.put, List.setIfInBounds_toArray, List.set_cons_zero, List.set_cons_succ]
      refine wpAnyH_take (i := 1) (oi := ?_) (v := ?_) ?_ ?_ ?_ ?_ ?_ ?_ ?_ ?_
      rotate_left 2
      · simp only [List.getElem?_toArray, List.getElem?_cons_succ, List.getElem?_cons_zero]; rfl
      · kernel_rfl
      · kernel_rfl
      · kernel_rfl
      · exact fun _ _ _ h => h
      · refine Or.inl ⟨by rfl, ?_⟩
        intro w' hSw
        (try dsimp only at hSw)
        go_simp
        all_goals (with_reducible rfl)
      · assumption
      try simp only [Act.put, List.setIfInBounds_toArray, List.set_cons_zero, List.set_cons_succ]
      refine wpAnyH_take (i := 5) (oi := ?_) (v := ?_) ?_ ?_ ?_ ?_ ?_ ?_ ?_ ?_
      rotate_left 2
      · simp only [List.getElem?_toArray, List.getElem?_cons_succ, List.getElem?_cons_zero]; rfl
      · kernel_rfl
      · kernel_rfl
      · kernel_rfl
      · exact fun _ _ _ h => h
      · refine Or.inl ⟨by rfl, ?_⟩
        intro w' hSw
        (try dsimp only at hSw)
        go_simp
        all_goals (with_reducible rfl)
      · assumption
      try simp only [Act.put, List.setIfInBounds_toArray, List.set_cons_zero, List.set_cons_succ]
      refine wpAnyH_take (i := 6) (oi := ?_) (v := ?_) ?_ ?_ ?_ ?_ ?_ ?_ ?_ ?_
      rotate_left 2
      · simp only [List.getElem?_toArray, List.getElem?_cons_succ, List.getElem?_cons_zero]; rfl
      · kernel_rfl
      · kernel_rfl
      · kernel_rfl
      · exact fun _ _ _ h => h
      · refine Or.inl ⟨by rfl, ?_⟩
        intro w' hSw
        (try dsimp only at hSw)
        go_simp
        all_goals (with_reducible rfl)
      · assumption
      try simp only [Act.put, List.setIfInBounds_toArray, List.set_cons_zero, List.set_cons_succ]
      refine wpAnyH_take (i := 10) (oi := ?_) (v := ?_) ?_ ?_ ?_ ?_ ?_ ?_ ?_ ?_
      rotate_left 2
      · simp only [List.getElem?_toArray, List.getElem?_cons_succ, List.getElem?_cons_zero]; rfl
      · kernel_rfl
      · kernel_rfl
      · kernel_rfl
      · exact fun _ _ _ h => h
      · refine Or.inl ⟨by rfl, ?_⟩
        intro w' hSw
        (try dsimp only at hSw)
        go_simp
        all_goals (with_reducible rfl)
      · assumption
      try simp only [Act.put, List.setIfInBounds_toArray, List.set_cons_zero, List.set_cons_succ]
      refine wpAnyH_take (i := 11) (oi := ?_) (v := ?_) ?_ ?_ ?_ ?_ ?_ ?_ ?_ ?_
      rotate_left 2
      · simp only [List.getElem?_toArray, List.getElem?_cons_succ, List.getElem?_cons_zero]; rfl
      · kernel_rfl
      · kernel_rfl
      · kernel_rfl
      · exact fun _ _ _ h => h
      · refine Or.inl ⟨by rfl, ?_⟩
        intro w' hSw
        (try dsimp only at hSw)
        go_simp
        all_goals (with_reducible rfl)
      · assumption
      try simp only [Act.put, List.setIfInBounds_toArray, List.set_cons_zero, List.set_cons_succ]
      refine wpAnyH_take (i := 15) (oi := ?_) (v := ?_) ?_ ?_ ?_ ?_ ?_ ?_ ?_ ?_
      rotate_left 2
      · simp only [List.getElem?_toArray, List.getElem?_cons_succ, List.getElem?_cons_zero]; rfl
      · kernel_rfl
      · kernel_rfl
      · kernel_rfl
      · exact fun _ _ _ h => h
      · refine Or.inl ⟨by rfl, ?_⟩
        intro w' hSw
        (try dsimp only at hSw)
        go_simp
        all_goals (with_reducible rfl)
      · assumption
      try simp only [Act.put, List.setIfInBounds_toArray, List.set_cons_zero, List.set_cons_succ]
      refine wpAnyH_take (i := 16) (oi := ?_) (v := ?_) ?_ ?_ ?_ ?_ ?_ ?_ ?_ ?_
      rotate_left 2
      · simp only [List.getElem?_toArray, List.getElem?_cons_succ, List.getElem?_cons_zero]; rfl
      · kernel_rfl
      · kernel_rfl
      · kernel_rfl
      · exact fun _ _ _ h => h
      · refine Or.inl ⟨by rfl, ?_⟩
        intro w' hSw
        (try dsimp only at hSw)
        go_simp
        all_goals (with_reducible rfl)
      · assumption
      try simp only [Act.put, List.setIfInBounds_toArray, List.set_cons_zero, List.set_cons_succ]
      refine wpAnyH_take (i := 20) (oi := ?_) (v := ?_) ?_ ?_ ?_ ?_ ?_ ?_ ?_ ?_
      rotate_left 2
      · simp only [List.getElem?_toArray, List.getElem?_cons_succ, List.getElem?_cons_zero]; rfl
      · kernel_rfl
      · kernel_rfl
      · kernel_rfl
      · exact fun _ _ _ h => h
      · refine Or.inl ⟨by rfl, ?_⟩
        intro w' hSw
        (try dsimp only at hSw)
        go_simp
        all_goals (with_reducible rfl)
      · assumption
      try simp only [Act.put, List.setIfInBounds_toArray, List.set_cons_zero, List.set_cons_succ]
      refine wpAnyH_take (i := 21) (oi := ?_) (v := ?_) ?_ ?_ ?_ ?_ ?_ ?_ ?_ ?_
      rotate_left 2
      · simp only [List.getElem?_toArray, List.getElem?_cons_succ, List.getElem?_cons_zero]; rfl
      · kernel_rfl
      · kernel_rfl
      · kernel_rfl
      · exact fun _ _ _ h => h
      · refine Or.inl ⟨by rfl, ?_⟩
        intro w' hSw
        (try dsimp only at hSw)
        go_simp
        all_goals (with_reducible rfl)
      · assumption
      try simp only [Act.put, List.setIfInBounds_toArray, List.set_cons_zero, List.set_cons_succ]
      refine wpAnyH_ready (rs := [2]) (by kernel_rfl) (by simp) ?_
      refine AllReadyH.cons (o := ?_) ?_ ?_ ?_
      rotate_left 1
      · simp only [List.getElem?_toArray, List.getElem?_cons_succ, List.getElem?_cons_zero]; rfl
      rotate_left 1
      · exact AllReadyH.nil
      intro K hK
      go_simp
      ((with_reducible refine (CR1.out _).mono ?_); rintro e wh1 ⟨rfl, bh⟩; have PH1 := Lib.hid (PG.out.keep bh); have QH1 := Lib.hid (QG.out.keep bh); have BH1 := Lib.hid (BG.out.trans (bh.mono BG.out.size)); clear bh)
      refine hK.out _ _ QH1.out.rd (fun hHeld => ?_)
      clear hK K
      try simp only [Act.put, List.setIfInBounds_toArray, List.set_cons_zero, List.set_cons_succ]
      refine wpAnyH_take (i := 3) (oi := ?_) (v := ?_) ?_ ?_ ?_ ?_ ?_ ?_ ?_ ?_
      rotate_left 2
      · simp only [List.getElem?_toArray, List.getElem?_cons_succ, List.getElem?_cons_zero]; rfl
      · kernel_rfl
      · kernel_rfl
      · kernel_rfl
      · exact fun _ _ _ h => h
      · refine Or.inl ⟨by rfl, ?_⟩
        intro w' hSw
        (try dsimp only at hSw)
        go_simp
        all_goals (with_reducible rfl)
      · assumption
      try simp only [Act.put, List.setIfInBounds_toArray, List.set_cons_zero, List.set_cons_succ]
      refine wpAnyH_take (i := 4) (oi := ?_) (v := ?_) ?_ ?_ ?_ ?_ ?_ ?_ ?_ ?_
      rotate_left 2
      · simp only [List.getElem?_toArray, List.getElem?_cons_succ, List.getElem?_cons_zero]; rfl
      · kernel_rfl
      · kernel_rfl
      · kernel_rfl
      · exact fun _ _ _ h => h
      · refine Or.inl ⟨by rfl, ?_⟩
        intro w' hSw
        (try dsimp only at hSw)
        go_simp
        all_goals (with_reducible rfl)
      · assumption
      try simp only [Act.put, List.setIfInBounds_toArray, List.set_cons_zero, List.set_cons_succ]
      refine wpAnyH_ready (rs := [7]) (by kernel_rfl) (by simp) ?_
      refine AllReadyH.cons (o := ?_) ?_ ?_ ?_
      rotate_left 1
      · simp only [List.getElem?_toArray, List.getElem?_cons_succ, List.getElem?_cons_zero]; rfl
      rotate_left 1
      · exact AllReadyH.nil
      intro K hK
      go_simp
      ((with_reducible refine (CR2.out _).mono ?_); rintro e wh2 ⟨rfl, bh⟩; have PH2 := Lib.hid (PH1.out.keep bh); have QH2 := Lib.hid (QH1.out.keep bh); have BH2 := Lib.hid (BH1.out.trans (bh.mono BH1.out.size)); clear bh)
      refine hK.out _ _ QH2.out.rd (fun hHeld => ?_)
      clear hK K
      try simp only [Act.put, List.setIfInBounds_toArray, List.set_cons_zero, List.set_cons_succ]
      refine wpAnyH_take (i := 8) (oi := ?_) (v := ?_) ?_ ?_ ?_ ?_ ?_ ?_ ?_ ?_
      rotate_left 2
      · simp only [List.getElem?_toArray, List.getElem?_cons_succ, List.getElem?_cons_zero]; rfl
      · kernel_rfl
      · kernel_rfl
      · kernel_rfl
      · exact fun _ _ _ h => h
      · refine Or.inl ⟨by rfl, ?_⟩
        intro w' hSw
        (try dsimp only at hSw)
        go_simp
        all_goals (with_reducible rfl)
      · assumption
      try simp only [Act.put, List.setIfInBounds_toArray, List.set_cons_zero, List.set_cons_succ]
      refine wpAnyH_take (i := 9) (oi := ?_) (v := ?_) ?_ ?_ ?_ ?_ ?_ ?_ ?_ ?_
      rotate_left 2
      · simp only [List.getElem?_toArray, List.getElem?_cons_succ, List.getElem?_cons_zero]; rfl
      · kernel_rfl
      · kernel_rfl
      · kernel_rfl
      · exact fun _ _ _ h => h
      · refine Or.inl ⟨by rfl, ?_⟩
        intro w' hSw
        (try dsimp only at hSw)
        go_simp
        all_goals (with_reducible rfl)
      · assumption
      try simp only [Act.put, List.setIfInBounds_toArray, List.set_cons_zero, List.set_cons_succ]
      refine wpAnyH_ready (rs := [12]) (by kernel_rfl) (by simp) ?_
      refine AllReadyH.cons (o := ?_) ?_ ?_ ?_
      rotate_left 1
      · simp only [List.getElem?_toArray, List.getElem?_cons_succ, List.getElem?_cons_zero]; rfl
      rotate_left 1
      · exact AllReadyH.nil
      intro K hK
      go_simp
      ((with_reducible refine (CR3.out _).mono ?_); rintro e wh3 ⟨rfl, bh⟩; have PH3 := Lib.hid (PH2.out.keep bh); have QH3 := Lib.hid (QH2.out.keep bh); have BH3 := Lib.hid (BH2.out.trans (bh.mono BH2.out.size)); clear bh)
      refine hK.out _ _ QH3.out.rd (fun hHeld => ?_)
      clear hK K
      try simp only [Act.put, List.setIfInBounds_toArray, List.set_cons_zero, List.set_cons_succ]
      refine wpAnyH_take (i := 13) (oi := ?_) (v := ?_) ?_ ?_ ?_ ?_ ?_ ?_ ?_ ?_
      rotate_left 2
      · simp only [List.getElem?_toArray, List.getElem?_cons_succ, List.getElem?_cons_zero]; rfl
      · kernel_rfl
      · kernel_rfl
      · kernel_rfl
      · exact fun _ _ _ h => h
      · refine Or.inl ⟨by rfl, ?_⟩
        intro w' hSw
        (try dsimp only at hSw)
        go_simp
        all_goals (with_reducible rfl)
      · assumption
      try simp only [Act.put, List.setIfInBounds_toArray, List.set_cons_zero, List.set_cons_succ]
      refine wpAnyH_take (i := 14) (oi := ?_) (v := ?_) ?_ ?_ ?_ ?_ ?_ ?_ ?_ ?_
      rotate_left 2
      · simp only [List.getElem?_toArray, List.getElem?_cons_succ, List.getElem?_cons_zero]; rfl
      · kernel_rfl
      · kernel_rfl
      · kernel_rfl
      · exact fun _ _ _ h => h
      · refine Or.inl ⟨by rfl, ?_⟩
        intro w' hSw
        (try dsimp only at hSw)
        go_simp
        all_goals (with_reducible rfl)
      · assumption
      try simp only [Act.put, List.setIfInBounds_toArray, List.set_cons_zero, List.set_cons_succ]
      refine wpAnyH_ready (rs := [17]) (by kernel_rfl) (by simp) ?_
      refine AllReadyH.cons (o := ?_) ?_ ?_ ?_
      rotate_left 1
      · simp only [List.getElem?_toArray, List.getElem?_cons_succ, List.getElem?_cons_zero]; rfl
      rotate_left 1
      · exact AllReadyH.nil
      intro K hK
      go_simp
      ((with_reducible refine (CR4.out _).mono ?_); rintro e wh4 ⟨rfl, bh⟩; have PH4 := Lib.hid (PH3.out.keep bh); have QH4 := Lib.hid (QH3.out.keep bh); have BH4 := Lib.hid (BH3.out.trans (bh.mono BH3.out.size)); clear bh)
      refine hK.out _ _ QH4.out.rd (fun hHeld => ?_)
      clear hK K
      try simp only [Act.put, List.setIfInBounds_toArray, List.set_cons_zero, List.set_cons_succ]
      refine wpAnyH_take (i := 18) (oi := ?_) (v := ?_) ?_ ?_ ?_ ?_ ?_ ?_ ?_ ?_
      rotate_left 2
      · simp only [List.getElem?_toArray, List.getElem?_cons_succ, List.getElem?_cons_zero]; rfl
      · kernel_rfl
      · kernel_rfl
      · kernel_rfl
      · exact fun _ _ _ h => h
      · refine Or.inl ⟨by rfl, ?_⟩
        intro w' hSw
        (try dsimp only at hSw)
        go_simp
        all_goals (with_reducible rfl)
      · assumption
      try simp only [Act.put, List.setIfInBounds_toArray, List.set_cons_zero, List.set_cons_succ]
      refine wpAnyH_take (i := 19) (oi := ?_) (v := ?_) ?_ ?_ ?_ ?_ ?_ ?_ ?_ ?_
      rotate_left 2
      · simp only [List.getElem?_toArray, List.getElem?_cons_succ, List.getElem?_cons_zero]; rfl
      · kernel_rfl
      · kernel_rfl
      · kernel_rfl
      · exact fun _ _ _ h => h
      · refine Or.inl ⟨by rfl, ?_⟩
        intro w' hSw
        (try dsimp only at hSw)
        go_simp
        all_goals (with_reducible rfl)
      · assumption
      try simp only [Act.put, List.setIfInBounds_toArray, List.set_cons_zero, List.set_cons_succ]
      refine wpAnyH_ready (rs := [22]) (by kernel_rfl) (by simp) ?_
      refine AllReadyH.cons (o := ?_) ?_ ?_ ?_
      rotate_left 1
      · simp only [List.getElem?_toArray, List.getElem?_cons_succ, List.getElem?_cons_zero]; rfl
      rotate_left 1
      · exact AllReadyH.nil
      intro K hK
      go_simp
      ((with_reducible refine (CR5.out _).mono ?_); rintro e wh5 ⟨rfl, bh⟩; have PH5 := Lib.hid (PH4.out.keep bh); have QH5 := Lib.hid (QH4.out.keep bh); have BH5 := Lib.hid (BH4.out.trans (bh.mono BH4.out.size)); clear bh)
      refine hK.out _ _ QH5.out.rd (fun hHeld => ?_)
      clear hK K
      try simp only [Act.put, List.setIfInBounds_toArray, List.set_cons_zero, List.set_cons_succ]
      refine wpAnyH_take (i := 23) (oi := ?_) (v := ?_) ?_ ?_ ?_ ?_ ?_ ?_ ?_ ?_
      rotate_left 2
      · simp only [List.getElem?_toArray, List.getElem?_cons_succ, List.getElem?_cons_zero]; rfl
      · kernel_rfl
      · kernel_rfl
      · kernel_rfl
      · exact fun _ _ _ h => h
      · refine Or.inl ⟨by rfl, ?_⟩
        intro w' hSw
        (try dsimp only at hSw)
        go_simp
        all_goals (with_reducible rfl)
      · assumption
      try simp only [Act.put, List.setIfInBounds_toArray, List.set_cons_zero, List.set_cons_succ]
      refine wpAnyH_take (i := 24) (oi := ?_) (v := ?_) ?_ ?_ ?_ ?_ ?_ ?_ ?_ ?_
      rotate_left 2
      · simp only [List.getElem?_toArray, List.getElem?_cons_succ, List.getElem?_cons_zero]; rfl
      · kernel_rfl
      · kernel_rfl
      · kernel_rfl
      · exact fun _ _ _ h => h
      · refine Or.inl ⟨by rfl, ?_⟩
        intro w' hSw
        (try dsimp only at hSw)
        go_simp
        all_goals (with_reducible rfl)
      · assumption
      try simp only [Act.put, List.setIfInBounds_toArray, List.set_cons_zero, List.set_cons_succ]
      refine wpAnyH_done (by kernel_rfl) ?_ _
      clear hHeld
      rw [HS12.out]
      have kp := PH5.out.rd
      go_wp2_with (first
        | (go_at_call 10; ((with_reducible refine (CCK.out _ BH5.out).mono ?_); rintro e wi ⟨rfl, bi⟩; have PI := Lib.hid (PH5.out.keep bi); have QI := Lib.hid (QH5.out.keep bi); have BI := Lib.hid (BH5.out.trans (bi.mono BH5.out.size)); have ki := PI.out.rd; clear bi))
        | (go_at_call 10; ((with_reducible refine (CPK.out _ BI.out).mono ?_); rintro e wj ⟨rfl, bj⟩; have QJ := Lib.hid (QI.out.keep bj); have BJ := Lib.hid (BI.out.trans (bj.mono BI.out.size)); have kj := QJ.out.rd; clear bj))
        | (go_at_call 10; ((with_reducible refine (CST.out _ BJ.out).mono ?_); rintro e wk ⟨rfl, bk⟩; have BK := Lib.hid (BJ.out.trans (bk.mono BJ.out.size)); clear bk))
        | (go_at_call 10; ((with_reducible refine (CTP.out _ BK.out).mono ?_); rintro e wl ⟨rfl, bl⟩; have BLL := Lib.hid (BK.out.trans (bl.mono BK.out.size)); clear bl)))
      go_ret
      exact ⟨rfl, BLL.out⟩
end Go.Proofs.YtghhoofdbmgacaaDoor
