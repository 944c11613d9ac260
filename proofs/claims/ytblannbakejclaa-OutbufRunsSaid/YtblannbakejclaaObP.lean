/- The laws of layer 15 (outbuf), walked: parts. -/
import Derived.Test.YtblannbakejclaaObL
import Derived.Laws.Concat
namespace Go.Proofs.Ytblannbakejclaa
open Go.ChangeShapes Go.WideShapes Go.ChangeAt Go.RowKit
theorem wf_take {zs : List Int} {k : IntKind} (h : ∀ z ∈ zs, (Lit.int k z).wf = true) (n : Nat) : ∀ z ∈ zs.take n, (Lit.int k z).wf = true := fun z hz => h z (List.mem_of_mem_take hz)
theorem wf_drop {zs : List Int} {k : IntKind} (h : ∀ z ∈ zs, (Lit.int k z).wf = true) (n : Nat) : ∀ z ∈ zs.drop n, (Lit.int k z).wf = true := fun z hz => h z (List.mem_of_mem_drop hz)
/-- what Take gave, as a string. -/
theorem took_str {w : World} {s m : Nat} {zs : List Int} (h : Blk w s 5 (byC zs)) (hl : zs.length = m) (hm : m ≤ 65536) (hw : ∀ z ∈ zs, (Lit.int .u8 z).wf = true) :
    (convert 26 9 (.slice (some ⟨s, 0, none⟩) m m)).run Try.prog w = .ok (.string (strOfNums zs)) w :=
  conv_str Try.underlying26 Try.underlying5 Try.underlying9 (rd_blk h hl (by unfold maxLen; omega) hw)
set_option maxHeartbeats 2000000 in
set_option maxRecDepth 100000 in
theorem parts_law (w : World) (A : Option Addr) (n c : Nat) (zs : List Int) (A2 : Option Addr) (m c2 : Nat) (cs : List Int) (hr : RdI w .u8 A n c zs) (hr2 : RdI w .i64 A2 m c2 cs) :
    Calls Try.prog 6 #[.slice A n c, .slice A2 m c2] w fun e w' => e = .returned (.bool true) ∧ Below w.heap.size w w' := by
  have hmx := hr.max
  unfold maxLen at hmx
  have hmx2 := hr2.max
  unfold maxLen at hmx2
  have hcp := hr.cap
  have hcp2 := hr2.cap
  by_cases hn : (200 : Int) < (n : Int)
  · clear hr hr2
    go_enter Try.func6, Try.ntmps6
    go_wp2_with (go_at_call 8; refine (fit_any _).mono ?_; rintro e w1 ⟨rfl, b1⟩)
    go_ret
    exact ⟨rfl, b1⟩
  have hnf : decide ((200 : Int) < (n : Int)) = false := by simpa using hn
  by_cases hm : (100 : Int) < (m : Int)
  · have hmt : decide ((100 : Int) < (m : Int)) = true := by simpa using hm
    clear hr hr2
    go_enter Try.func6, Try.ntmps6
    go_wp2_with (go_at_call 8; refine (fit_any _).mono ?_; rintro e w1 ⟨rfl, b1⟩)
    go_ret
    exact ⟨rfl, b1⟩
  have hmf : decide ((100 : Int) < (m : Int)) = false := by simpa using hm
  have hn2 : (n : Int) ≤ 200 := by omega
  have hm2 : (m : Int) ≤ 100 := by omega
  have c1 : ∀ w, Calls Try.prog 9 #[.int .i64 200] w fun e w' => e = .returned (.pointer (some ⟨w.heap.size + 1, 0, none⟩)) ∧ BufAt w' (w.heap.size + 1) w.heap.size 200 [] ∧ Below w.heap.size w w' := fun w => new_yes 200 (by omega) (by omega) w
  have C1 := Lib.hid c1
  have HR := Lib.hid hr
  have HR2 := Lib.hid hr2
  have HL := Lib.hid hr.len
  have HL2 := Lib.hid hr2.len
  have HN := Lib.hid (show n ≤ 200 by omega)
  clear c1 hr hr2 hn hm
  go_enter Try.func6, Try.ntmps6
  go_upto_region 5 with (first
    | (go_at_call 8; refine (fit_any _).mono ?_; rintro e w1 ⟨rfl, b1⟩; have B1 := Lib.hid b1; clear b1))
  go_wp2_with (fail)
  refine (C1.out _).mono ?_
  rintro e w2 ⟨rfl, hb, b2⟩
  have HB := Lib.hid hb
  have B2 := Lib.hid (below_trans' B1.out b2)
  have OB := Lib.hid (show w.heap.size ≤ w1.heap.size + 1 ∧ w.heap.size ≤ w1.heap.size ∧ w1.heap.size + 1 < w2.heap.size by have := B1.out.size; have := hb.lt; omega)
  generalize w1.heap.size + 1 = ob at HB OB hb ⊢
  generalize w1.heap.size = og at HB OB hb ⊢
  clear B1 b2 hb
  go_wp2_with (fail)
  refine (C1.out _).mono ?_
  rintro e w3 ⟨rfl, hb, b3⟩
  have HP := Lib.hid hb
  have HB3 := Lib.hid (HB.out.keep b3)
  have B3 := Lib.hid (below_trans' B2.out b3)
  have PB := Lib.hid (show w.heap.size ≤ w2.heap.size + 1 ∧ w.heap.size ≤ w2.heap.size ∧ (w2.heap.size ≠ ob ∧ w2.heap.size ≠ og) ∧ (w2.heap.size + 1 ≠ ob ∧ w2.heap.size + 1 ≠ og) by have := B2.out.size; have := HB.out.lt; omega)
  generalize w2.heap.size + 1 = pb at HP PB hb ⊢
  generalize w2.heap.size = pg at HP PB hb ⊢
  clear B2 b3 hb HB
  go_wp2_with (fail)
  refine (put_yes ob og 200 [] A n c zs w3 HB3.out (HR.out.below B3.out) (by simp; exact HN.out) (rd_ne HR.out OB.out.1 OB.out.2.1)).mono ?_
  rintro e w4 ⟨rfl, hb, f4⟩
  rw [List.nil_append] at hb
  have HO := Lib.hid hb
  have HP4 := Lib.hid (HP.out.fr f4 (by have := PB.out; omega) (by have := PB.out; omega))
  have B4 := Lib.hid (B3.out.trans (f4.below B3.out.size (fun k hk => by have := OB.out; omega)))
  clear HP HB3 B3 hb f4
  go_wp2
  go_loopg [29] n (fun k si wr => ∃ i : Nat, i ≤ n ∧ k = n - i ∧ si = .int .i64 (i : Int) ∧ BufAt wr pb pg 200 (zs.take i) ∧ Fr (obF pb pg) w4 wr)
  case atStart => exact ⟨0, by omega, by omega, rfl, by rw [List.take_zero]; exact HP4.out, Fr.refl _ _⟩
  case round =>
    obtain ⟨i, hi, hkk, rfl, hb, hf⟩ := hrel
    have HK := Lib.hid hkk
    have HF := Lib.hid hf
    have HBR := Lib.hid hb
    have BW := Lib.hid (B4.out.trans (hf.below B4.out.size (fun k hk => by have := PB.out; omega)))
    clear hkk hf hb
    by_cases hin : i < n
    · obtain ⟨bs, off, rfl, hlt, _⟩ := HR.out.at_ (by omega)
      have q0 := rd_at HR.out BW.out hin
      obtain ⟨z, hz⟩ : ∃ z, z = zs.getD i 0 := ⟨_, rfl⟩
      rw [← hz] at q0
      have hzw : (Lit.int .u8 z).wf = true := by rw [hz]; exact HR.out.wf_at hin
      have HZW := Lib.hid hzw
      have HZE := Lib.hid hz
      clear hz hzw
      go_wp2_with (fail)
      obtain ⟨x1, ex, nx, bx, sx⟩ := box_new wr #[.int .u8 z] 5
      rw [ex]
      have r1 : RdI x1 .u8 (some ⟨wr.heap.size, 0, none⟩) 1 1 [z] := rd_blk (zs := [z]) nx rfl (by decide) (by simpa using HZW.out)
      have h1 := HBR.out.keep bx
      have hl := HBR.out.lt
      refine (put_yes _ _ 200 _ _ 1 1 [z] x1 h1 r1 (by rw [List.length_take, HL.out]; omega) (fun bs off _ he => by injection he with he; injection he with he; omega)).mono ?_
      rintro e w5 ⟨rfl, hb5, f5⟩
      have H5 := Lib.hid hb5
      have F5 := Lib.hid (HF.out.trans ((Fr.of_below (F := obF pb pg) bx).trans f5))
      clear r1 h1 nx bx sx ex f5 hl hb5
      go_wp2
      go_roundg (n - (i + 1))
      case measure => have := HK.out; omega
      case rel => exact ⟨i + 1, by omega, by omega, by go_num, by rw [take_snoc _ _ (by have := HL.out; omega), ← HZE.out]; exact H5.out, F5.out⟩
    · have hie : n = i := by omega
      have hbr := HBR.out
      rw [List.take_of_length_le (by have := HL.out; omega)] at hbr
      have HPX := Lib.hid hbr
      have HOX := Lib.hid (HO.out.fr HF.out (by have := PB.out; omega) (by have := PB.out; omega))
      clear hbr HBR HO HP4 hie hi
      obtain ⟨wo, rfl⟩ : ∃ wo : World, wo = wr := ⟨_, rfl⟩
      go_wp2
      go_loopg [9, 40] m (fun k got si wq => ∃ j t : Nat, j ≤ m ∧ k = m - j ∧ si = .int .i64 (j : Int) ∧ t ≤ n ∧ got = .string (strOfNums (zs.take t)) ∧ BufAt wq ob og 200 (zs.drop t) ∧ Fr (obF ob og) wo wq)
      case atStart => exact ⟨0, 0, by omega, by omega, rfl, by omega, by rw [List.take_zero]; rfl, by rw [List.drop_zero]; exact HOX.out, Fr.refl _ _⟩
      case round =>
        obtain ⟨j, t, hj, hkk, rfl, ht, rfl, hb, hf⟩ := hrel
        have HK2 := Lib.hid hkk
        have HF2 := Lib.hid hf
        have HB2 := Lib.hid hb
        have BW2 := Lib.hid (BW.out.trans (hf.below BW.out.size (fun k hk => by have := OB.out; omega)))
        obtain ⟨gs, hgs⟩ : ∃ gs, gs = strOfNums (zs.take t) := ⟨_, rfl⟩
        rw [← hgs]
        have HGS := Lib.hid hgs
        have HT := Lib.hid ht
        clear hkk hf hb hgs ht
        by_cases hjm : j < m
        · obtain ⟨bs, off, rfl, hlt, _⟩ := HR2.out.at_ (by omega)
          have q0 := rd_at HR2.out BW2.out hjm
          obtain ⟨cz, hcz⟩ : ∃ cz, cz = cs.getD j 0 := ⟨_, rfl⟩
          rw [← hcz] at q0
          obtain ⟨ku, hku⟩ : ∃ ku : Nat, cz % 32 = (ku : Int) := ⟨(cz % 32).toNat, by omega⟩
          have e1 : bits .and .i64 cz 31 = (ku : Int) := by rw [i64_mask5, hku]
          obtain ⟨mt, hmt⟩ : ∃ mt, mt = min ku (n - t) := ⟨_, rfl⟩
          have hql : (zs.drop t).length = n - t := by rw [List.length_drop, HL.out]
          have hz := take_any ob og 200 _ (ku : Int) mt wr HB2.out (by rw [hql]; omega)
          unfold Took at hz
          rw [List.drop_drop] at hz
          obtain ⟨tk, htk⟩ : ∃ tk, tk = (zs.drop t).take mt := ⟨_, rfl⟩
          rw [← htk] at hz
          have htl : tk.length = mt := by rw [htk, List.length_take, hql]; omega
          have htw : ∀ z ∈ tk, (Lit.int .u8 z).wf = true := by rw [htk]; exact wf_take (wf_drop HR.out.wf _) _
          obtain ⟨ts, hts⟩ : ∃ ts, ts = strOfNums tk := ⟨_, rfl⟩
          obtain ⟨gs', hgs'⟩ : ∃ gs', gs' = gs ++ ts := ⟨_, rfl⟩
          have hadd : ∀ w, (Op.stringOp .add gs ts).run Try.prog w = .ok (.string gs') w := by
            intro w
            rw [hgs']
            exact run_string_add_sum w gs ts (by rw [HGS.out, hts, str_size, str_size, List.length_take, htl, HL.out]; have := HN.out; omega)
          have HTS := Lib.hid (show gs' = strOfNums (zs.take (t + mt)) from by rw [hgs', HGS.out, hts, str_append, htk, ← List.take_add])
          have HTL := Lib.hid (And.intro htl htw)
          have HMT := Lib.hid (show t + mt ≤ n from by have := HT.out; omega)
          have HSE := Lib.hid hts
          have hmb : mt ≤ 65536 := by have := HN.out; omega
          have CT := Lib.hid hz
          clear hz htk htl htw hgs' hts hql hcz hku hmt
          go_wp2_with (go_at_call 10; ((refine CT.out.mono ?_); rintro e w6 ⟨s, rfl, ns, hb6, f6, hs1, hs2, hs3⟩; have hcv := took_str ns HTL.out.1 hmb HTL.out.2; rw [← HSE.out] at hcv; have F6 := Lib.hid (HF2.out.trans f6); have H6 := Lib.hid hb6; clear f6 hb6 ns))
          go_roundg (m - (j + 1))
          case measure => have := HK2.out; omega
          case rel => exact ⟨j + 1, t + mt, by omega, by omega, by go_num, HMT.out, by rw [HTS.out], H6.out, F6.out⟩
        · have hjm' : j = m := by omega
          have hql : (zs.drop t).length = n - t := by rw [List.length_drop, HL.out]
          have hz := take_any ob og 200 _ 1048576 (n - t) wr HB2.out (by rw [hql]; have := HN.out; omega)
          unfold Took at hz
          rw [List.drop_drop, List.take_of_length_le (by omega)] at hz
          have hdn : zs.drop (t + (n - t)) = [] := List.drop_eq_nil_of_le (by have := HT.out; have := HL.out; omega)
          rw [hdn] at hz
          obtain ⟨tk, htk⟩ : ∃ tk, tk = zs.drop t := ⟨_, rfl⟩
          rw [← htk] at hz
          obtain ⟨mt, hmt⟩ : ∃ mt, mt = n - t := ⟨_, rfl⟩
          rw [← hmt] at hz
          have htl : tk.length = mt := by rw [htk, hmt, hql]
          have htw : ∀ z ∈ tk, (Lit.int .u8 z).wf = true := by rw [htk]; exact wf_drop HR.out.wf _
          obtain ⟨ts, hts⟩ : ∃ ts, ts = strOfNums tk := ⟨_, rfl⟩
          obtain ⟨gz, hgz⟩ : ∃ gz, gz = strOfNums zs := ⟨_, rfl⟩
          have hgg : gs ++ ts = gz := by rw [HGS.out, hts, str_append, htk, List.take_append_drop, hgz]
          have hadd : ∀ w, (Op.stringOp .add gs ts).run Try.prog w = .ok (.string gz) w := by
            intro w
            rw [← hgg]
            exact run_string_add_sum w gs ts (by rw [HGS.out, hts, str_size, str_size, List.length_take, htl, HL.out]; have := HN.out; omega)
          have hmb : mt ≤ 65536 := by have := HN.out; omega
          have cv := fun W (hb : Below w.heap.size w W) => conv_str (P := Try.prog) (dst := 9) Try.underlying26 Try.underlying5 Try.underlying9 (HR.out.below hb)
          rw [← hgz] at cv
          have CV := Lib.hid cv
          have HTL := Lib.hid (And.intro htl htw)
          have HSE := Lib.hid hts
          have HGZ := Lib.hid hgz
          have CT := Lib.hid hz
          clear hz htk htl htw hgg hts hql hmt hgz cv hdn
          go_upto_region 19 with (go_at_call 10; ((refine CT.out.mono ?_); rintro e w6 ⟨s, rfl, ns, hb6, f6, hs1, hs2, hs3⟩; have hcv := took_str ns HTL.out.1 hmb HTL.out.2; rw [← HSE.out] at hcv; have F6 := Lib.hid (HF2.out.trans f6); have H6 := Lib.hid hb6; clear f6 hb6 ns))
          clear hcv hadd
          have P6 := Lib.hid (HPX.out.fr F6.out (by have := PB.out; omega) (by have := PB.out; omega))
          have B6 := Lib.hid (BW.out.trans (F6.out.below BW.out.size (fun k hk => by have := OB.out; omega)))
          have pd : Below w6.heap.size w6 w6.drew := below_draws (Below.refl _ _) 1
          have cvd := CV.out w6.drew (below_draws B6.out 1)
          have tz := take_any pb pg 200 zs 200 n w6.drew (P6.out.keep pd) (by have := HL.out; have := HN.out; omega)
          unfold Took at tz
          rw [List.take_of_length_le (by have := HL.out; omega)] at tz
          have TZ := Lib.hid tz
          have O7 := Lib.hid (H6.out.keep pd)
          have hnb : n ≤ 65536 := by have := HN.out; omega
          clear tz pd
          refine wp_region_held_drew (S := fun w' => (convert 26 9 (.slice A n c)).run Try.prog w' = .ok (.string gz) w') (by kernel_rfl) cvd (fun hHeld => ?_)
          refine wpAnyH_take (i := 0) (oi := ?_) (v := ?_) ?_ ?_ ?_ ?_ ?_ ?_ ?_ ?_
          rotate_left 2
          · simp only [List.getElem?_toArray, List.getElem?_cons_succ, List.getElem?_cons_zero]; rfl
          · kernel_rfl
          · kernel_rfl
          · kernel_rfl
          · exact fun _ _ _ h => h
          · refine Or.inl ⟨by rfl, ?_⟩
            intro w' hSw
            (try dsimp only at hSw)
            go_simp
            all_goals (with_reducible rfl)
          · assumption
          try simp only [Act.put, List.setIfInBounds_toArray, List.set_cons_zero, List.set_cons_succ]
          refine wpAnyH_take (i := 1) (oi := ?_) (v := ?_) ?_ ?_ ?_ ?_ ?_ ?_ ?_ ?_
          rotate_left 2
          · simp only [List.getElem?_toArray, List.getElem?_cons_succ, List.getElem?_cons_zero]; rfl
          · kernel_rfl
          · kernel_rfl
          · kernel_rfl
          · exact fun _ _ _ h => h
          · refine Or.inl ⟨by rfl, ?_⟩
            intro w' hSw
            (try dsimp only at hSw)
            go_simp
            all_goals (with_reducible rfl)
          · assumption
          try simp only [Act.put, List.setIfInBounds_toArray, List.set_cons_zero, List.set_cons_succ]
          refine wpAnyH_take (i := 2) (oi := ?_) (v := ?_) ?_ ?_ ?_ ?_ ?_ ?_ ?_ ?_
          rotate_left 2
          · simp only [List.getElem?_toArray, List.getElem?_cons_succ, List.getElem?_cons_zero]; rfl
          · kernel_rfl
          · kernel_rfl
          · kernel_rfl
          · exact fun _ _ _ h => h
          · refine Or.inl ⟨by rfl, ?_⟩
            intro w' hSw
            (try dsimp only at hSw)
            go_simp
            all_goals (with_reducible rfl)
          · assumption
          try simp only [Act.put, List.setIfInBounds_toArray, List.set_cons_zero, List.set_cons_succ]
          refine wpAnyH_take (i := 3) (oi := ?_) (v := ?_) ?_ ?_ ?_ ?_ ?_ ?_ ?_ ?_
          rotate_left 2
          · simp only [List.getElem?_toArray, List.getElem?_cons_succ, List.getElem?_cons_zero]; rfl
          · kernel_rfl
          · kernel_rfl
          · kernel_rfl
          · exact fun _ _ _ h => h
          · refine Or.inl ⟨by rfl, ?_⟩
            intro w' hSw
            (try dsimp only at hSw)
            go_simp
            all_goals (with_reducible rfl)
          · assumption
          try simp only [Act.put, List.setIfInBounds_toArray, List.set_cons_zero, List.set_cons_succ]
          refine wpAnyH_take (i := 4) (oi := ?_) (v := ?_) ?_ ?_ ?_ ?_ ?_ ?_ ?_ ?_
          rotate_left 2
          · simp only [List.getElem?_toArray, List.getElem?_cons_succ, List.getElem?_cons_zero]; rfl
          · kernel_rfl
          · kernel_rfl
          · kernel_rfl
          · exact fun _ _ _ h => h
          · refine Or.inl ⟨by rfl, ?_⟩
            intro w' hSw
            (try dsimp only at hSw)
            go_simp
            all_goals (with_reducible rfl)
          · assumption
          try simp only [Act.put, List.setIfInBounds_toArray, List.set_cons_zero, List.set_cons_succ]
          refine wpAnyH_take (i := 5) (oi := ?_) (v := ?_) ?_ ?_ ?_ ?_ ?_ ?_ ?_ ?_
          rotate_left 2
          · simp only [List.getElem?_toArray, List.getElem?_cons_succ, List.getElem?_cons_zero]; rfl
          · kernel_rfl
          · kernel_rfl
          · kernel_rfl
          · exact fun _ _ _ h => h
          · refine Or.inl ⟨by rfl, ?_⟩
            intro w' hSw
            (try dsimp only at hSw)
            go_simp
            all_goals (with_reducible rfl)
          · assumption
          try simp only [Act.put, List.setIfInBounds_toArray, List.set_cons_zero, List.set_cons_succ]
          refine wpAnyH_take (i := 8) (oi := ?_) (v := ?_) ?_ ?_ ?_ ?_ ?_ ?_ ?_ ?_
          rotate_left 2
          · simp only [List.getElem?_toArray, List.getElem?_cons_succ, List.getElem?_cons_zero]; rfl
          · kernel_rfl
          · kernel_rfl
          · kernel_rfl
          · exact fun _ _ _ h => h
          · refine Or.inl ⟨by rfl, ?_⟩
            intro w' hSw
            (try dsimp only at hSw)
            go_simp
            all_goals (with_reducible rfl)
          · assumption
          try simp only [Act.put, List.setIfInBounds_toArray, List.set_cons_zero, List.set_cons_succ]
          refine wpAnyH_take (i := 9) (oi := ?_) (v := ?_) ?_ ?_ ?_ ?_ ?_ ?_ ?_ ?_
          rotate_left 2
          · simp only [List.getElem?_toArray, List.getElem?_cons_succ, List.getElem?_cons_zero]; rfl
          · kernel_rfl
          · kernel_rfl
          · kernel_rfl
          · exact fun _ _ _ h => h
          · refine Or.inl ⟨by rfl, ?_⟩
            intro w' hSw
            (try dsimp only at hSw)
            go_simp
            all_goals (with_reducible rfl)
          · assumption
          try simp only [Act.put, List.setIfInBounds_toArray, List.set_cons_zero, List.set_cons_succ]
          refine wpAnyH_ready (rs := [6]) (by kernel_rfl) (by simp) ?_
          refine AllReadyH.cons (o := ?_) ?_ ?_ ?_
          rotate_left 1
          · simp only [List.getElem?_toArray, List.getElem?_cons_succ, List.getElem?_cons_zero]; rfl
          rotate_left 1
          · exact AllReadyH.nil
          intro K hK
          go_simp
          refine TZ.out.mono ?_; rintro e w7 ⟨s, rfl, ns, hb7, f7, hs1, hs2, hs3⟩; have hcv7 := took_str ns HL.out hnb HR.out.wf; rw [← HGZ.out] at hcv7; have BB := Lib.hid ((below_draws B6.out 1).trans (f7.below (below_draws B6.out 1).size (fun k hk => by have := PB.out; omega))); have O8 := Lib.hid (O7.out.fr f7 (by have := PB.out; omega) (by have := PB.out; omega)); clear hb7 f7 ns
          refine hK.out _ _ (CV.out _ BB.out) (fun hHeld => ?_)
          clear hK K
          try simp only [Act.put, List.setIfInBounds_toArray, List.set_cons_zero, List.set_cons_succ]
          refine wpAnyH_ready (rs := [7]) (by kernel_rfl) (by simp) ?_
          refine AllReadyH.cons (o := ?_) ?_ ?_ ?_
          rotate_left 1
          · simp only [List.getElem?_toArray, List.getElem?_cons_succ, List.getElem?_cons_zero]; rfl
          rotate_left 1
          · exact AllReadyH.nil
          intro K hK
          go_simp
          skip
          refine hK.out _ _ (CV.out _ BB.out) (fun hHeld => ?_)
          clear hK K
          try simp only [Act.put, List.setIfInBounds_toArray, List.set_cons_zero, List.set_cons_succ]
          refine wpAnyH_take (i := 10) (oi := ?_) (v := ?_) ?_ ?_ ?_ ?_ ?_ ?_ ?_ ?_
          rotate_left 2
          · simp only [List.getElem?_toArray, List.getElem?_cons_succ, List.getElem?_cons_zero]; rfl
          · kernel_rfl
          · kernel_rfl
          · kernel_rfl
          · exact fun _ _ _ h => h
          · refine Or.inl ⟨by rfl, ?_⟩
            intro w' hSw
            (try dsimp only at hSw)
            go_simp
            all_goals (with_reducible rfl)
          · assumption
          try simp only [Act.put, List.setIfInBounds_toArray, List.set_cons_zero, List.set_cons_succ]
          refine wpAnyH_take (i := 11) (oi := ?_) (v := ?_) ?_ ?_ ?_ ?_ ?_ ?_ ?_ ?_
          rotate_left 2
          · simp only [List.getElem?_toArray, List.getElem?_cons_succ, List.getElem?_cons_zero]; rfl
          · kernel_rfl
          · kernel_rfl
          · kernel_rfl
          · exact fun _ _ _ h => h
          · refine Or.inl ⟨by rfl, ?_⟩
            intro w' hSw
            (try dsimp only at hSw)
            go_simp
            all_goals (with_reducible rfl)
          · assumption
          try simp only [Act.put, List.setIfInBounds_toArray, List.set_cons_zero, List.set_cons_succ]
          refine wpAnyH_take (i := 12) (oi := ?_) (v := ?_) ?_ ?_ ?_ ?_ ?_ ?_ ?_ ?_
          rotate_left 2
          · simp only [List.getElem?_toArray, List.getElem?_cons_succ, List.getElem?_cons_zero]; rfl
          · kernel_rfl
          · kernel_rfl
          · kernel_rfl
          · exact fun _ _ _ h => h
          · refine Or.inl ⟨by rfl, ?_⟩
            intro w' hSw
            (try dsimp only at hSw)
            go_simp
            all_goals (with_reducible rfl)
          · assumption
          try simp only [Act.put, List.setIfInBounds_toArray, List.set_cons_zero, List.set_cons_succ]
          refine wpAnyH_take (i := 13) (oi := ?_) (v := ?_) ?_ ?_ ?_ ?_ ?_ ?_ ?_ ?_
          rotate_left 2
          · simp only [List.getElem?_toArray, List.getElem?_cons_succ, List.getElem?_cons_zero]; rfl
          · kernel_rfl
          · kernel_rfl
          · kernel_rfl
          · exact fun _ _ _ h => h
          · refine Or.inl ⟨by rfl, ?_⟩
            intro w' hSw
            (try dsimp only at hSw)
            go_simp
            all_goals (with_reducible rfl)
          · assumption
          try simp only [Act.put, List.setIfInBounds_toArray, List.set_cons_zero, List.set_cons_succ]
          refine wpAnyH_ready (rs := [14]) (by kernel_rfl) (by simp) ?_
          refine AllReadyH.cons (o := ?_) ?_ ?_ ?_
          rotate_left 1
          · simp only [List.getElem?_toArray, List.getElem?_cons_succ, List.getElem?_cons_zero]; rfl
          rotate_left 1
          · exact AllReadyH.nil
          intro K hK
          go_simp
          refine (take_any ob og 200 [] (-1) 0 w7 O8.out (by decide)).mono ?_; rintro e w8 ⟨s', rfl, ns, hb8, f8, hs1, hs2, hs3⟩; have BZ := Lib.hid (BB.out.trans (f8.below BB.out.size (fun k hk => by have := OB.out; omega)))
          refine hK.out _ _ (CV.out _ BZ.out) (fun hHeld => ?_)
          clear hK K
          try simp only [Act.put, List.setIfInBounds_toArray, List.set_cons_zero, List.set_cons_succ]
          refine wpAnyH_take (i := 15) (oi := ?_) (v := ?_) ?_ ?_ ?_ ?_ ?_ ?_ ?_ ?_
          rotate_left 2
          · simp only [List.getElem?_toArray, List.getElem?_cons_succ, List.getElem?_cons_zero]; rfl
          · kernel_rfl
          · kernel_rfl
          · kernel_rfl
          · exact fun _ _ _ h => h
          · refine Or.inl ⟨by rfl, ?_⟩
            intro w' hSw
            (try dsimp only at hSw)
            go_simp
            all_goals (with_reducible rfl)
          · assumption
          try simp only [Act.put, List.setIfInBounds_toArray, List.set_cons_zero, List.set_cons_succ]
          refine wpAnyH_take (i := 16) (oi := ?_) (v := ?_) ?_ ?_ ?_ ?_ ?_ ?_ ?_ ?_
          rotate_left 2
          · simp only [List.getElem?_toArray, List.getElem?_cons_succ, List.getElem?_cons_zero]; rfl
          · kernel_rfl
          · kernel_rfl
          · kernel_rfl
          · exact fun _ _ _ h => h
          · refine Or.inl ⟨by rfl, ?_⟩
            intro w' hSw
            (try dsimp only at hSw)
            go_simp
            all_goals (with_reducible rfl)
          · assumption
          try simp only [Act.put, List.setIfInBounds_toArray, List.set_cons_zero, List.set_cons_succ]
          refine wpAnyH_take (i := 17) (oi := ?_) (v := ?_) ?_ ?_ ?_ ?_ ?_ ?_ ?_ ?_
          rotate_left 2
          · simp only [List.getElem?_toArray, List.getElem?_cons_succ, List.getElem?_cons_zero]; rfl
          · kernel_rfl
          · kernel_rfl
          · kernel_rfl
          · exact fun _ _ _ h => h
          · refine Or.inl ⟨by rfl, ?_⟩
            intro w' hSw
            (try dsimp only at hSw)
            go_simp
            all_goals (with_reducible rfl)
          · assumption
          try simp only [Act.put, List.setIfInBounds_toArray, List.set_cons_zero, List.set_cons_succ]
          refine wpAnyH_take (i := 18) (oi := ?_) (v := ?_) ?_ ?_ ?_ ?_ ?_ ?_ ?_ ?_
          rotate_left 2
          · simp only [List.getElem?_toArray, List.getElem?_cons_succ, List.getElem?_cons_zero]; rfl
          · kernel_rfl
          · kernel_rfl
          · kernel_rfl
          · exact fun _ _ _ h => h
          · refine Or.inl ⟨by rfl, ?_⟩
            intro w' hSw
            (try dsimp only at hSw)
            go_simp
            all_goals (with_reducible rfl)
          · assumption
          try simp only [Act.put, List.setIfInBounds_toArray, List.set_cons_zero, List.set_cons_succ]
          refine wpAnyH_done (by kernel_rfl) ?_ _
          go_wp2
          go_ret
          exact ⟨rfl, BZ.out⟩
end Go.Proofs.Ytblannbakejclaa
