/- The laws of layer 15 (outbuf), walked: call by call. -/
import Derived.Test.YtblannbakejclaaObN
import Derived.Test.YtblannbakejclaaRowC
namespace Go.Proofs.Ytblannbakejclaa
open Go.ChangeShapes Go.WideShapes Go.ChangeAt Go.RowKit
set_option maxHeartbeats 4000000 in
set_option maxRecDepth 100000 in
theorem runs_law (w : World) (a : Int) (A : Option Addr) (n c : Nat) (D : Nat → Option Addr × Nat × Nat × List Int) (y : Nat → Int) (ha : -9223372036854775808 ≤ a ∧ a ≤ 9223372036854775807) (hr : RdD w A n c D y) :
    Calls Try.prog 3 #[.int .i64 a, .slice A n c] w fun e w' => e = .returned (.bool true) ∧ Below w.heap.size w w' := by
  have hmx := hr.max
  unfold maxLen at hmx
  have hcp := hr.cap
  obtain ⟨k, hk⟩ : ∃ k : Nat, a % 32 = (k : Int) := ⟨(a % 32).toNat, by omega⟩
  have e1 : bits .and .i64 a 31 = (k : Int) := by rw [i64_mask5, hk]
  obtain ⟨sz, hsz⟩ : ∃ sz : Nat, sz = k + 1 := ⟨_, rfl⟩
  have es : (k : Int) + 1 = (sz : Int) := by omega
  have hszb : 1 ≤ sz ∧ sz ≤ 32 := by omega
  have kb : (k : Int) ≤ 31 := by omega
  have hszi : (sz : Int) ≤ 32 := by omega
  by_cases hn : (200 : Int) < (n : Int)
  · clear hr hk hsz ha hszb
    go_enter Try.func3, Try.ntmps3
    go_wp2_with (go_at_call 8; refine (fit_any _).mono ?_; rintro e w1 ⟨rfl, b1⟩)
    go_ret
    exact ⟨rfl, b1⟩
  have hn2 : (n : Int) ≤ 200 := by omega
  have c1 := fun w => new_yes sz (by omega) (by omega) w
  have C1 := Lib.hid c1
  have HR := Lib.hid hr
  have HZ := Lib.hid hszb
  clear c1 hr hk hn ha hsz hszb
  go_enter Try.func3, Try.ntmps3
  go_wp2_with (first
    | (go_at_call 8; refine (fit_any _).mono ?_; rintro e w1 ⟨rfl, b1⟩; have B1 := Lib.hid b1; clear b1)
    | (go_at_call 9; ((with_reducible refine (C1.out _).mono ?_); rintro e w2 ⟨rfl, hb, b2⟩; have HB := Lib.hid hb; have B2 := Lib.hid (below_trans' B1.out b2); clear hb b2)))
  have OB := Lib.hid (show w.heap.size ≤ w1.heap.size + 1 ∧ w.heap.size ≤ w1.heap.size by have := B1.out.size; omega)
  generalize w1.heap.size + 1 = ob at HB OB ⊢
  generalize w1.heap.size = og at HB OB ⊢
  clear B1
  go_loopg [6, 23] n (fun k got si wr => ∃ (i : Nat) (q : List Int), i ≤ n ∧ k = n - i ∧ si = .int .i64 (i : Int) ∧ got = .string (strOfNums q) ∧ (∀ z ∈ q, (Lit.int .u8 z).wf = true) ∧ BufAt wr ob og sz q ∧ Fr (obF ob og) w2 wr)
  case atStart => exact ⟨0, [], by omega, by omega, rfl, rfl, by simp, HB.out, Fr.refl _ _⟩
  case round =>
    obtain ⟨i, q, hi, hkk, rfl, rfl, hqw, hb, hf⟩ := hrel
    have HK := Lib.hid hkk
    have HF := Lib.hid hf
    have HBR := Lib.hid hb
    have HQW := Lib.hid hqw
    have BW := Lib.hid (B2.out.trans (hf.below B2.out.size (fun k hk => by have := OB.out; omega)))
    obtain ⟨ql, hql⟩ : ∃ ql, ql = q.length := ⟨_, rfl⟩
    have hle := hb.le
    have hqlb : (ql : Int) ≤ 32 := by have := HZ.out; omega
    have HLE := Lib.hid (show ql ≤ sz by omega)
    obtain ⟨gs, hgs⟩ : ∃ gs, gs = strOfNums q := ⟨_, rfl⟩
    rw [← hgs]
    have hgz : gs.size = ql := by rw [hgs, str_size, hql]
    have HGS := Lib.hid hgs
    have HQL := Lib.hid hql
    clear hkk hf hb hqw hgs hql hle
    by_cases hin : i < n
    · obtain ⟨bs, off, rfl, hlt, hcs⟩ := HR.out.at_ (by omega)
      obtain ⟨g0, g1⟩ := hcs i hin
      have hrd := HR.out.rd i hin
      have hyb := HR.out.by_ i hin
      obtain ⟨d, hd⟩ : ∃ d, d = D i := ⟨_, rfl⟩
      rw [← hd] at g0 hrd
      clear hd
      obtain ⟨dA, dn, dc, dz⟩ := d
      dsimp only at g0 hrd
      obtain ⟨N, hN⟩ : ∃ N, N = y i := ⟨_, rfl⟩
      rw [← hN] at g1 hyb
      have q0 : wr.cell? ⟨bs, off + i * 2, none⟩ = some (.slice dA dn dc) := (BW.out.cell (p := ⟨bs, off + i * 2, none⟩) hlt).trans g0
      have q1 : wr.cell? ⟨bs, off + i * 2 + 1, none⟩ = some (.int .i64 N) := (BW.out.cell (p := ⟨bs, off + i * 2 + 1, none⟩) hlt).trans g1
      have HRD := Lib.hid hrd
      have hdm := hrd.max
      unfold maxLen at hdm
      have hdc := hrd.cap
      clear g0 g1 hcs hN hrd
      go_upto_region 11 with (fail)
      obtain ⟨w5, e5, k5, b5, s5⟩ := box_new wr #[.slice dA dn dc, .int .i64 N] 28
      rw [e5]
      have KB := Lib.hid (show wr.heap.size ≠ ob ∧ wr.heap.size ≠ og by have := HBR.out.lt; omega)
      generalize wr.heap.size = kb at k5 KB ⊢
      have K5 := Lib.hid k5
      have r5 := k5.rd
      have H5 := Lib.hid (HBR.out.keep b5)
      have F5 := Lib.hid (HF.out.trans (Fr.of_below (F := obF ob og) b5))
      have B5 := Lib.hid (below_trans' BW.out b5)
      clear e5 b5 s5 q0 q1 k5
      by_cases hd2 : (200 : Int) < (dn : Int)
      · clear HK HF HBR
        go_wp2
        go_ret
        exact ⟨rfl, B5.out⟩
      · have hd3 : decide ((200 : Int) < (dn : Int)) = false := by simpa using hd2
        have hd4 : (dn : Int) ≤ 200 := by omega
        have hdl := HRD.out.len
        have HDL := Lib.hid hdl
        clear hd2 hdl
        by_cases hN : 0 < N ∨ N < -50
        · obtain ⟨mt, hmt⟩ : ∃ mt : Nat, (mt : Int) = max 0 (min N (ql : Int)) := ⟨(max 0 (min N (ql : Int))).toNat, by omega⟩
          have hz := take_any ob og sz q N mt w5.drew (H5.out.keep (below_draws (Below.refl _ _) 1)) (by rw [← HQL.out]; exact hmt)
          unfold Took at hz
          obtain ⟨tk, htk⟩ : ∃ tk, tk = q.take mt := ⟨_, rfl⟩
          obtain ⟨q', hq'⟩ : ∃ q', q' = q.drop mt := ⟨_, rfl⟩
          rw [← htk, ← hq'] at hz
          obtain ⟨ts, hts⟩ : ∃ ts, ts = strOfNums tk := ⟨_, rfl⟩
          obtain ⟨gs', hgs'⟩ : ∃ gs', gs' = strOfNums q' := ⟨_, rfl⟩
          have hx1 : gs.extract 0 mt = ts := by rw [HGS.out, str_extract, hts, htk, List.drop_zero]
          have hx2 : gs.extract mt ql = gs' := by rw [HGS.out, str_extract, hgs', hq', HQL.out, List.take_length]
          have htl : tk.length = mt := by rw [htk, List.length_take, ← HQL.out]; omega
          obtain ⟨ql', hq2⟩ : ∃ ql', (q').length = ql' := ⟨_, rfl⟩
          have hgz' : gs'.size = ql' := by rw [hgs', str_size, hq2]
          have hq2b : ql' ≤ ql := by rw [← hq2, hq', List.length_drop, ← HQL.out]; omega
          have htw : ∀ z ∈ tk, (Lit.int .u8 z).wf = true := by rw [htk]; exact wf_take HQW.out _
          have hqw' : ∀ z ∈ q', (Lit.int .u8 z).wf = true := by rw [hq']; exact wf_drop HQW.out _
          have hcase : ((0 < N) = True ∧ (N < 0) = False ∧ ((ql : Int) < N) = True ∧ mt = ql ∧ q' = [] ∧ gs' = ByteArray.empty ∧ ql' = 0) ∨ ((0 < N) = True ∧ (N < 0) = False ∧ ((ql : Int) < N) = False ∧ N = (mt : Int)) ∨ ((0 < N) = False ∧ (N < -50) = True ∧ (N < 0) = True ∧ mt = 0 ∧ ts = ByteArray.empty) := by
            have z1 : mt = ql → q' = [] := fun h => by rw [hq']; exact List.drop_eq_nil_of_le (by rw [← HQL.out]; omega)
            have z3 : mt = 0 → ts = ByteArray.empty := fun h => by rw [hts, htk, h]; rfl
            by_cases h1 : 0 < N
            · by_cases h2 : (ql : Int) < N
              · have z0 := z1 (by omega)
                exact Or.inl ⟨eq_true h1, eq_false (by omega), eq_true h2, by omega, z0, by rw [hgs', z0]; rfl, by rw [← hq2, z0]; rfl⟩
              · exact Or.inr (Or.inl ⟨eq_true h1, eq_false (by omega), eq_false h2, by omega⟩)
            · exact Or.inr (Or.inr ⟨eq_false h1, eq_true (by omega), eq_true (by omega), by omega, z3 (by omega)⟩)
          have hmq : mt ≤ ql := by omega
          have hmqi : (mt : Int) ≤ (ql : Int) := by omega
          have CT := Lib.hid hz
          have HTL := Lib.hid (And.intro htl htw)
          have HSE := Lib.hid hts
          have HQW' := Lib.hid hqw'
          have HGS' := Lib.hid hgs'
          have hmb : mt ≤ 65536 := by have := HLE.out; have := HZ.out; omega
          have hql2 : (q').length = ql' := hq2
          have cl := fun W (h : BufAt W ob og sz q') => len_any ob og sz q' W h
          have cr := fun W (h : BufAt W ob og sz q') => room_any ob og sz q' W h
          rw [hql2] at cl cr
          have CL := Lib.hid cl
          have CR := Lib.hid cr
          have ed : (sz : Int) - (ql' : Int) = ((sz - ql' : Nat) : Int) := by have := HLE.out; omega
          clear cl cr hql2

          clear hz htk htl htw hts hgs' hq' hqw' hmt hq2
          have hle2 := HLE.out
          rcases hcase with ⟨x1, x2, x3, em, rfl, rfl, rfl⟩ | ⟨x1, x2, x3, em⟩ | ⟨x1, x2, x3, em, rfl⟩
          all_goals
            subst em
            go_upto_region 15 with (fail)
            have r5d : ∀ i, w5.drew.cell? ⟨kb, i, none⟩ = _ := (Blk.drew K5.out).rd
            refine wp_region_held_drew (S := fun w' => ∀ i, w'.cell? ⟨kb, i, none⟩ = (#[.slice dA dn dc, .int .i64 _] : Array Value)[i]?) (by kernel_rfl) r5d (fun hHeld => ?_)
            refine wpAnyH_take (i := 0) (oi := ?_) (v := ?_) ?_ ?_ ?_ ?_ ?_ ?_ ?_ ?_
            rotate_left 2
            · simp only [List.getElem?_toArray, List.getElem?_cons_succ, List.getElem?_cons_zero]; rfl
            · kernel_rfl
            · kernel_rfl
            · kernel_rfl
            · exact fun _ _ _ h => h
            · refine Or.inl ⟨by rfl, ?_⟩
              intro w' hSw
              (try dsimp only at hSw)
              go_simp
              all_goals (with_reducible rfl)
            · assumption
            try simp only [Act.put, List.setIfInBounds_toArray, List.set_cons_zero, List.set_cons_succ]
            refine wpAnyH_take (i := 1) (oi := ?_) (v := ?_) ?_ ?_ ?_ ?_ ?_ ?_ ?_ ?_
            rotate_left 2
            · simp only [List.getElem?_toArray, List.getElem?_cons_succ, List.getElem?_cons_zero]; rfl
            · kernel_rfl
            · kernel_rfl
            · kernel_rfl
            · exact fun _ _ _ h => h
            · refine Or.inl ⟨by rfl, ?_⟩
              intro w' hSw
              (try dsimp only at hSw)
              go_simp
              all_goals (with_reducible rfl)
            · assumption
            try simp only [Act.put, List.setIfInBounds_toArray, List.set_cons_zero, List.set_cons_succ]
            refine wpAnyH_take (i := 2) (oi := ?_) (v := ?_) ?_ ?_ ?_ ?_ ?_ ?_ ?_ ?_
            rotate_left 2
            · simp only [List.getElem?_toArray, List.getElem?_cons_succ, List.getElem?_cons_zero]; rfl
            · kernel_rfl
            · kernel_rfl
            · kernel_rfl
            · exact fun _ _ _ h => h
            · refine Or.inl ⟨by rfl, ?_⟩
              intro w' hSw
              (try dsimp only at hSw)
              go_simp
              all_goals (with_reducible rfl)
            · assumption
            try simp only [Act.put, List.setIfInBounds_toArray, List.set_cons_zero, List.set_cons_succ]
            refine wpAnyH_take (i := 5) (oi := ?_) (v := ?_) ?_ ?_ ?_ ?_ ?_ ?_ ?_ ?_
            rotate_left 2
            · simp only [List.getElem?_toArray, List.getElem?_cons_succ, List.getElem?_cons_zero]; rfl
            · kernel_rfl
            · kernel_rfl
            · kernel_rfl
            · exact fun _ _ _ h => h
            · refine Or.inl ⟨by rfl, ?_⟩
              intro w' hSw
              (try dsimp only at hSw)
              go_simp
              all_goals (with_reducible rfl)
            · assumption
            try simp only [Act.put, List.setIfInBounds_toArray, List.set_cons_zero, List.set_cons_succ]
            refine wpAnyH_take (i := 6) (oi := ?_) (v := ?_) ?_ ?_ ?_ ?_ ?_ ?_ ?_ ?_
            rotate_left 2
            · simp only [List.getElem?_toArray, List.getElem?_cons_succ, List.getElem?_cons_zero]; rfl
            · kernel_rfl
            · kernel_rfl
            · kernel_rfl
            · exact fun _ _ _ h => h
            · refine Or.inl ⟨by rfl, ?_⟩
              intro w' hSw
              (try dsimp only at hSw)
              go_simp
              all_goals (with_reducible rfl)
            · assumption
            try simp only [Act.put, List.setIfInBounds_toArray, List.set_cons_zero, List.set_cons_succ]
            refine wpAnyH_take (i := 7) (oi := ?_) (v := ?_) ?_ ?_ ?_ ?_ ?_ ?_ ?_ ?_
            rotate_left 2
            · simp only [List.getElem?_toArray, List.getElem?_cons_succ, List.getElem?_cons_zero]; rfl
            · kernel_rfl
            · kernel_rfl
            · kernel_rfl
            · exact fun _ _ _ h => h
            · refine Or.inl ⟨by rfl, ?_⟩
              intro w' hSw
              (try dsimp only at hSw)
              go_simp
              all_goals (with_reducible rfl)
            · assumption
            try simp only [Act.put, List.setIfInBounds_toArray, List.set_cons_zero, List.set_cons_succ]
            refine wpAnyH_ready (rs := [3]) (by kernel_rfl) (by simp) ?_
            refine AllReadyH.cons (o := ?_) ?_ ?_ ?_
            rotate_left 1
            · simp only [List.getElem?_toArray, List.getElem?_cons_succ, List.getElem?_cons_zero]; rfl
            rotate_left 1
            · exact AllReadyH.nil
            intro K hK
            go_simp
            (with_reducible refine CT.out.mono ?_); rintro e w6 ⟨s, rfl, ns, hb6, f6, hs1, hs2, hs3⟩; have hcv6 := took_str ns HTL.out.1 hmb HTL.out.2; rw [← HSE.out] at hcv6; have B6 := Lib.hid ((below_draws B5.out 1).trans (f6.below (below_draws B5.out 1).size (fun k hk => by have := OB.out; omega))); have H6 := Lib.hid hb6; have F6 := Lib.hid ((F5.out.trans (Fr.of_below (F := obF ob og) (below_draws (Below.refl _ _) 1))).trans f6); have K6 := ((Blk.drew K5.out).fr f6 (by have := KB.out; omega)).rd; clear hb6 f6 ns
            refine hK.out _ _ K6 (fun hHeld => ?_)
            clear hK K
            try simp only [Act.put, List.setIfInBounds_toArray, List.set_cons_zero, List.set_cons_succ]
            refine wpAnyH_ready (rs := [4]) (by kernel_rfl) (by simp) ?_
            refine AllReadyH.cons (o := ?_) ?_ ?_ ?_
            rotate_left 1
            · simp only [List.getElem?_toArray, List.getElem?_cons_succ, List.getElem?_cons_zero]; rfl
            rotate_left 1
            · exact AllReadyH.nil
            intro K hK
            go_simp
            skip
            refine hK.out _ _ K6 (fun hHeld => ?_)
            clear hK K
            try simp only [Act.put, List.setIfInBounds_toArray, List.set_cons_zero, List.set_cons_succ]
            refine wpAnyH_take (i := 8) (oi := ?_) (v := ?_) ?_ ?_ ?_ ?_ ?_ ?_ ?_ ?_
            rotate_left 2
            · simp only [List.getElem?_toArray, List.getElem?_cons_succ, List.getElem?_cons_zero]; rfl
            · kernel_rfl
            · kernel_rfl
            · kernel_rfl
            · exact fun _ _ _ h => h
            · refine Or.inl ⟨by rfl, ?_⟩
              intro w' hSw
              (try dsimp only at hSw)
              go_simp
              all_goals (with_reducible rfl)
            · assumption
            try simp only [Act.put, List.setIfInBounds_toArray, List.set_cons_zero, List.set_cons_succ]
            refine wpAnyH_done (by kernel_rfl) ?_ _
            clear hHeld
            go_wp2_with (first
              | (go_at_call 12; ((with_reducible refine (CL.out _ H6.out).mono ?_); rintro e w7 ⟨rfl, rfl⟩))
              | (go_at_call 13; ((with_reducible refine (CR.out _ H6.out).mono ?_); rintro e w8 ⟨rfl, b8⟩; have H8 := Lib.hid (H6.out.keep b8); have F8 := Lib.hid (F6.out.trans (Fr.of_below (F := obF ob og) b8)); clear b8)))
            go_roundg (n - (i + 1))
            case measure => have := HK.out; omega
            case rel => exact ⟨i + 1, _, by omega, by omega, by go_num, congrArg Value.string HGS'.out, HQW'.out, H8.out, F8.out⟩
        · have x1 : (0 < N) = False := eq_false (by omega)
          have x2 : (N < -50) = False := eq_false (by omega)
          have x3 : decide (0 < N) = false := by simp; omega
          have x4 : decide (N < -50) = false := by simp; omega
          by_cases hok : ql + dn ≤ sz
          · have o1 : decide ((ql : Int) + (dn : Int) ≤ (sz : Int)) = true := by simp; omega
            have o2 : decide (ql + dn ≤ sz) = true := by simp; omega
            have hp := put_yes ob og sz q dA dn dc dz w5 H5.out (HRD.out.below B5.out) (by rw [← HQL.out]; exact hok) (rd_ne HRD.out OB.out.1 OB.out.2)
            obtain ⟨q', hq'⟩ : ∃ q', q' = q ++ dz := ⟨_, rfl⟩
            rw [← hq'] at hp
            obtain ⟨ts, hts⟩ : ∃ ts, ts = strOfNums dz := ⟨_, rfl⟩
            obtain ⟨gs', hgs'⟩ : ∃ gs', gs' = strOfNums q' := ⟨_, rfl⟩
            have hgg : gs ++ ts = gs' := by rw [hgs', HGS.out, hts, str_append, hq']
            have hadd : ∀ w, (Op.stringOp .add gs ts).run Try.prog w = .ok (.string gs') w := by
              intro w
              rw [← hgg]
              exact run_string_add_sum w gs ts (by rw [hgz, hts, str_size, HDL.out]; omega)
            obtain ⟨ql', hq2⟩ : ∃ ql', (q').length = ql' := ⟨_, rfl⟩
            have hgz' : gs'.size = ql' := by rw [hgs', str_size, hq2]
            have hq2b : ql' = ql + dn := by rw [← hq2, hq', List.length_append, ← HQL.out, HDL.out]
            have hqw' : ∀ z ∈ q', (Lit.int .u8 z).wf = true := by
              rw [hq']; intro z hz
              rcases List.mem_append.1 hz with h | h
              · exact HQW.out z h
              · exact HRD.out.wf z h
            have cv := fun W (hb : Below w.heap.size w W) => conv_str (P := Try.prog) (dst := 9) Try.underlying26 Try.underlying5 Try.underlying9 (HRD.out.below hb)
            rw [← hts] at cv
            have CV := Lib.hid cv
            have CP := Lib.hid hp
            have HQW' := Lib.hid hqw'
            have HGS' := Lib.hid hgs'
            have hql2 : (q').length = ql' := hq2
            have cl := fun W (h : BufAt W ob og sz q') => len_any ob og sz q' W h
            have cr := fun W (h : BufAt W ob og sz q') => room_any ob og sz q' W h
            rw [hql2] at cl cr
            have CL := Lib.hid cl
            have CR := Lib.hid cr
            have ed : (sz : Int) - (ql' : Int) = ((sz - ql' : Nat) : Int) := by omega
            have hqi : (ql' : Int) ≤ 32 := by omega
            clear cl cr hql2 hp hq' hts hgs' hgg hqw' hq2 cv hq2b
            go_wp2_with (first
              | (go_at_call 11; ((with_reducible refine CP.out.mono ?_); rintro e w6 ⟨rfl, hb6, f6⟩; have B6 := Lib.hid (B5.out.trans (f6.below B5.out.size (fun k hk => by have := OB.out; omega))); have hcv := CV.out _ B6.out; have H6 := Lib.hid hb6; have F6 := Lib.hid (F5.out.trans f6); have r6 := (K5.out.fr f6 (by have := KB.out; omega)).rd; clear hb6 f6))
              | (go_at_call 12; ((with_reducible refine (CL.out _ H6.out).mono ?_); rintro e w7 ⟨rfl, rfl⟩))
              | (go_at_call 13; ((with_reducible refine (CR.out _ H6.out).mono ?_); rintro e w8 ⟨rfl, b8⟩; have H8 := Lib.hid (H6.out.keep b8); have F8 := Lib.hid (F6.out.trans (Fr.of_below (F := obF ob og) b8)); clear b8)))
            go_roundg (n - (i + 1))
            case measure => have := HK.out; omega
            case rel => exact ⟨i + 1, q', by omega, by omega, by go_num, by rw [HGS'.out], HQW'.out, H8.out, F8.out⟩
          · have o1 : decide ((ql : Int) + (dn : Int) ≤ (sz : Int)) = false := by simp; omega
            have o2 : decide (ql + dn ≤ sz) = false := by simp; omega
            have hp := put_no ob og sz q dA dn dc dz w5 H5.out (HRD.out.below B5.out) (by rw [← HQL.out]; omega)
            have cl := fun W (h : BufAt W ob og sz q) => len_any ob og sz q W h
            have cr := fun W (h : BufAt W ob og sz q) => room_any ob og sz q W h
            rw [← HQL.out] at cl cr
            have CP := Lib.hid hp
            have CL := Lib.hid cl
            have CR := Lib.hid cr
            have ed : (sz : Int) - (ql : Int) = ((sz - ql : Nat) : Int) := by have := HLE.out; omega
            clear cl cr hp
            go_wp2_with (first
              | (go_at_call 11; ((with_reducible refine CP.out.mono ?_); rintro e w6 ⟨rfl, b6⟩; have H6 := Lib.hid (H5.out.keep b6); have F6 := Lib.hid (F5.out.trans (Fr.of_below (F := obF ob og) b6)); clear b6))
              | (go_at_call 12; ((with_reducible refine (CL.out _ H6.out).mono ?_); rintro e w7 ⟨rfl, rfl⟩))
              | (go_at_call 13; ((with_reducible refine (CR.out _ H6.out).mono ?_); rintro e w8 ⟨rfl, b8⟩; have H8 := Lib.hid (H6.out.keep b8); have F8 := Lib.hid (F6.out.trans (Fr.of_below (F := obF ob og) b8)); clear b8)))
            go_roundg (n - (i + 1))
            case measure => have := HK.out; omega
            case rel => exact ⟨i + 1, q, by omega, by omega, by go_num, by rw [HGS.out], HQW.out, H8.out, F8.out⟩
    · have hz := take_any ob og sz q (sz : Int) ql wr HBR.out (by rw [← HQL.out]; have := HLE.out; omega)
      unfold Took at hz
      rw [List.take_of_length_le (by rw [← HQL.out]; exact Nat.le_refl _), List.drop_eq_nil_of_le (by rw [← HQL.out]; exact Nat.le_refl _)] at hz
      have CT := Lib.hid hz
      have hmb : ql ≤ 65536 := by have := HLE.out; have := HZ.out; omega
      have cl : ∀ W, BufAt W ob og sz [] → Calls Try.prog 12 #[.pointer (some ⟨ob, 0, none⟩)] W fun e w' => e = .returned (.int .i64 0) ∧ W = w' := fun W h => len_any ob og sz [] W h
      have CL := Lib.hid cl
      clear hz cl
      go_wp2_with (first
        | (go_at_call 10; ((with_reducible refine CT.out.mono ?_); rintro e w6 ⟨s, rfl, ns, hb6, f6, hs1, hs2, hs3⟩; have hcv6 := took_str (m := ql) ns HQL.out.symm hmb HQW.out; rw [← HGS.out] at hcv6; have B6 := Lib.hid (BW.out.trans (f6.below BW.out.size (fun k hk => by have := OB.out; omega))); have H6 := Lib.hid hb6; clear hb6 f6 ns))
        | (go_at_call 12; ((with_reducible refine (CL.out _ H6.out).mono ?_); rintro e w7 ⟨rfl, rfl⟩)))
      go_ret
      exact ⟨rfl, B6.out⟩
end Go.Proofs.Ytblannbakejclaa
