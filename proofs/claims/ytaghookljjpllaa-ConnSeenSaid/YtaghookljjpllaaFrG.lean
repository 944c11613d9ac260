/- The contracts of layer 13 (frame): what a whole request says. -/
import Derived.Test.YtaghookljjpllaaFrC
namespace Go.Proofs.Ytaghookljjpllaa
set_option linter.unusedSimpArgs false
set_option linter.unusedVariables false
open Go.ChangeShapes Go.WideShapes Go.ChangeAt Go.RowKit
def reqOf (q : Req) : Value := reqV q.op q.rule q.cost (strOfNums q.key) q.k
theorem pre1 (q : List Int) : preZ q 1 = q.getD 0 0 := by simp [preZ]
theorem reader_any (A : Option Addr) (n c d : Nat) (q : List Int) (w : World) (hr : RdI w .u8 A n c q) (hd : 0 < n → ∃ off, A = some ⟨d, off, none⟩) (hdw : d < w.heap.size) (s : Nat) (hs : w.heap.size = s) :
    Calls Try.prog 44 #[.slice A n c] w fun e w' => e = .returned (.func (.func 45) #[] #[.pointer (some ⟨s, 0, none⟩)]) ∧ SrcAt w' s d q ∧ Below w.heap.size w w' := by
  subst hs
  have HR := Lib.hid hr
  have HD := Lib.hid hd
  clear hr hd
  go_enter Try.func44, Try.ntmps44
  go_wp2
  go_ret
  refine ⟨rfl, ⟨A, n, c, heap_alloc_new w _, HR.out.below ((Below.refl _ _).alloc (Nat.le_refl _) _), HD.out⟩, (Below.refl _ _).alloc (Nat.le_refl _) _⟩
theorem five_set {w : World} {b : Nat} {t : TypeId} {a1 a2 a3 a4 a5 v1 v2 v3 v4 v5 : Value} (h : Blk w b t #[a1, a2, a3, a4, a5]) :
    (((((w.setCell ⟨b, 0, none⟩ v1).setCell ⟨b, 1, none⟩ v2).setCell ⟨b, 2, none⟩ v3).setCell ⟨b, 3, none⟩ v4).setCell ⟨b, 4, none⟩ v5) = setObj w b (.cells #[v1, v2, v3, v4, v5] t (0, 0)) := by
  have hl := lt_of_block h
  rw [setCell_obj h, setCell_in hl, setCell_in hl, setCell_in hl, setCell_in hl]
  rfl
theorem blk_set {w : World} {b b' i : Nat} {t t' : TypeId} {c c' : Array Value} {v : Value} (h : Blk w b t c) (h' : Blk w b' t' c') (hne : b ≠ b') : Blk (w.setCell ⟨b', i, none⟩ v) b t c := by
  rw [setCell_obj h']
  exact (setObj_other w hne _).trans h
theorem fr_set {w : World} {b i : Nat} {t : TypeId} {c : Array Value} {v : Value} (h : Blk w b t c) : Fr (fun k => k = b) w (w.setCell ⟨b, i, none⟩ v) := by
  rw [setCell_obj h]
  exact Fr.setObj (F := fun k => k = b) (Fr.refl _ _) rfl _
theorem reqZ3 {z : List Int} (h : z.getD 3 0 = 2) : reqZ z = ⟨z.getD 4 0, z.getD 5 0, 0, [], 0⟩ := by unfold reqZ; simp only [h]; rfl
theorem reqZ4 {z : List Int} (h : z.getD 3 0 = 3) : reqZ z = ⟨z.getD 4 0, z.getD 5 0, 0, [], z.getD 6 0⟩ := by unfold reqZ; simp only [h]; rfl
theorem reqZ7 {z : List Int} (h : 7 ≤ z.getD 3 0) : reqZ z = ⟨z.getD 4 0, z.getD 5 0, preZ (z.drop 6) 4, (z.take (4 + (z.getD 3 0).toNat)).drop 11, 0⟩ := by unfold reqZ; simp only; rw [if_pos h]
set_option maxHeartbeats 4000000 in
theorem request_any (A : Option Addr) (n c : Nat) (z : List Int) (w : World) (hr : RdI w .u8 A n c z) (hn : 6 ≤ n)
    (h : (z.getD 4 0 = 3 ∧ z.getD 3 0 = 2) ∨ (z.getD 4 0 = 4 ∧ z.getD 3 0 = 3 ∧ 7 ≤ n) ∨ ((z.getD 4 0 = 1 ∨ z.getD 4 0 = 2) ∧ 7 ≤ z.getD 3 0 ∧ z.getD 10 0 = z.getD 3 0 - 7 ∧ 4 + z.getD 3 0 ≤ n)) :
    Calls Try.prog 40 #[.slice A n c] w fun e w' => e = .returned (reqOf (reqZ z)) ∧ Below w.heap.size w w' := by
  have hcp := hr.cap
  have hmx := hr.max
  unfold maxLen at hmx
  obtain ⟨d, off, rfl, hlt, hc⟩ := hr.at_ (by omega)
  have hl := hr.len
  have hby : byt z := fun x hx => wf_u8 (hr.wf x hx)
  have HR := Lib.hid hr
  have HL := Lib.hid hl
  have HBY := Lib.hid hby
  have HDL := Lib.hid hlt
  have b4 := byt_getD hby 4
  have b5 := byt_getD hby 5
  obtain ⟨op, hop⟩ : ∃ op, op = z.getD 4 0 := ⟨_, rfl⟩
  obtain ⟨rule, hrule⟩ : ∃ x, x = z.getD 5 0 := ⟨_, rfl⟩
  rw [← hop] at h b4
  rw [← hrule] at b5
  have HOP := Lib.hid hop
  have HRU := Lib.hid hrule
  have g1 : (4 : Int) ≤ (n : Int) := by omega
  have g2 : (n : Int) ≤ (c : Int) := by omega
  have g3 : ¬ c = 4 := by omega
  clear hr hc hl hby hop hrule hlt
  have HX := Lib.hid h
  clear h
  go_enter Try.func40, Try.ntmps40
  go_upto_region 1 with (fail)
  obtain ⟨w1, hw1, hbk, hbl, hsz1⟩ := box_new w (reqC 0 0 0 ⟨#[]⟩ 0) 41
  change Code.wp _ _ _ _ (w.alloc (.cells (reqC 0 0 0 ⟨#[]⟩ 0) 41))
  rw [hw1]
  obtain ⟨b0, hb0⟩ : ∃ b0, b0 = w.heap.size := ⟨_, rfl⟩
  rw [← hb0] at hbk hsz1 ⊢
  have HB0 := Lib.hid hb0
  have BK := Lib.hid hbk
  have BL := Lib.hid hbl
  have S1 := Lib.hid hsz1
  have R4 := Lib.hid (show RdI w1 .u8 (some ⟨d, off + 4, none⟩) (n - 4) (c - 4) (z.drop 4) from (rdI_end HR.out (m := 4) (by omega)).below hbl)
  have HD1 := Lib.hid (show d < w1.heap.size from Nat.lt_of_lt_of_le HDL.out hbl.size)
  clear hbk hbl hsz1 hw1 hb0
  have P4 := Lib.hid (show preZ (z.drop 4) 1 = op from by rw [pre1, HOP.out]; simp [List.getD])
  have P5 := Lib.hid (show preZ (z.drop 5) 1 = rule from by rw [pre1, HRU.out]; simp [List.getD])
  have D5 := Lib.hid (show (z.drop 4).drop 1 = z.drop 5 from by rw [List.drop_drop])
  have D6 := Lib.hid (show (z.drop 5).drop 1 = z.drop 6 from by rw [List.drop_drop])
  have e1 : IntKind.i64.wrap op = op := by rw [IntKind.wrap_i64]; omega
  have e2 : IntKind.i64.wrap rule = rule := by rw [IntKind.wrap_i64]; omega
  have HDN := Lib.hid (show d ≠ b0 + 1 from by have := HD1.out; have := S1.out; omega)
  go_upto_region 3 with (first
    | (go_at_call 44; ((with_reducible refine (reader_any _ _ _ d _ _ R4.out (fun _ => ⟨_, rfl⟩) HD1.out (b0 + 1) S1.out).mono ?_); rintro e w2 ⟨rfl, s2, b2⟩; have S2 := Lib.hid s2; have BK2 := Lib.hid (BK.out.keep b2); have BL2 := Lib.hid (BL.out.trans (b2.mono BL.out.size)); clear s2 b2))
    | (go_at_call 45; ((with_reducible refine (next_x (b0 + 1) d (z.drop 4) (z.drop 5) op 1 1 rfl (by omega) (by rw [List.length_drop, HL.out]; omega) (by omega) _ S2.out HDN.out P4.out D5.out).mono ?_); rintro e w3 ⟨rfl, s3, f3⟩; have S3 := Lib.hid s3; have BK3 := Lib.hid (BK2.out.fr f3 (by omega)); have BL3 := Lib.hid (BL2.out.trans (f3.below BL2.out.size (fun k hk => by have := HB0.out; omega))); clear s3 f3))
    | (go_at_call 45; ((with_reducible refine (next_x (b0 + 1) d (z.drop 5) (z.drop 6) rule 1 1 rfl (by omega) (by rw [List.length_drop, HL.out]; omega) (by omega) _ S3.out HDN.out P5.out D6.out).mono ?_); rintro e w4 ⟨rfl, s4, f4⟩; have S4 := Lib.hid s4; have BK4 := Lib.hid (BK3.out.fr f4 (by omega)); have BL4 := Lib.hid (BL3.out.trans (f4.below BL3.out.size (fun k hk => by have := HB0.out; omega))); clear s4 f4)))
  obtain ⟨w5, hw5, hb5, hbl5, hsz5⟩ := box_new w4 (reqC op rule 0 ⟨#[]⟩ 0) 41
  change Code.wp _ _ _ _ (w4.alloc (.cells (reqC op rule 0 ⟨#[]⟩ 0) 41))
  rw [hw5]
  obtain ⟨bq, hbq⟩ : ∃ bq, bq = w4.heap.size := ⟨_, rfl⟩
  rw [← hbq] at hb5 ⊢
  have BQ := Lib.hid hb5
  have BK5 := Lib.hid (BK4.out.keep hbl5)
  have S5 := Lib.hid (S4.out.keep hbl5)
  have BL5 := Lib.hid (BL4.out.trans (hbl5.mono BL4.out.size))
  have NE1 := Lib.hid (show b0 + 1 < bq from by
    have h := S4.out; obtain ⟨_, _, _, hh, _⟩ := h; have := lt_of_block hh; omega)
  have HDQ := Lib.hid (show d ≠ bq from by have := HD1.out; have := S1.out; have := NE1.out; omega)
  have k5 := hb5.rd
  have q5 := hb5.wr
  clear hw5 hb5 hbl5 hsz5 hbq
  rcases HX.out with ⟨h1, h2⟩ | ⟨h1, h2, h3⟩ | ⟨h1, h2, h3, h4⟩
  · subst h1
    have HZ := Lib.hid h2
    clear h2 HX
    have k0 := BK5.out.rd
    have q0 := BK5.out.wr
    go_wp2
    rw [five_set BK5.out]
    refine bodyPost_ret (results_cell_row rfl _ _ b0 _ _ (0, 0) _ rfl (setObj_at (lt_of_block BK5.out) _) Try.underlying41 rfl (by kernel_rfl)) rfl ⟨?_, ?_⟩
    · rw [reqZ3 HZ.out, ← HOP.out, ← HRU.out]; rfl
    · exact BL5.out.trans ((Fr.setObj (F := fun k => k = b0) (Fr.refl _ _) rfl _).below BL5.out.size (fun k hk => by have := HB0.out; omega))
  · subst h1
    have HZ := Lib.hid h2
    have b6 := byt_getD HBY.out 6
    obtain ⟨kk, hkk⟩ : ∃ x, x = z.getD 6 0 := ⟨_, rfl⟩
    rw [← hkk] at b6
    have HK := Lib.hid hkk
    have e3 : IntKind.i64.wrap kk = kk := by rw [IntKind.wrap_i64]; omega
    have P6 := Lib.hid (show preZ (z.drop 6) 1 = kk from by rw [pre1, hkk]; simp [List.getD])
    have hn7 : 7 ≤ n := h3
    have k0 := BK5.out.rd
    clear h2 hkk HX h3
    go_upto_region 11 with (go_at_call 45; ((with_reducible refine (next_x (b0 + 1) d (z.drop 6) ((z.drop 6).drop 1) kk 1 1 rfl (by omega) (by rw [List.length_drop, HL.out]; omega) (by omega) _ S5.out HDN.out P6.out rfl).mono ?_); rintro e w6 ⟨rfl, s6, f6⟩; have BK6 := Lib.hid (BK5.out.fr f6 (by omega)); have BQ6 := Lib.hid (BQ.out.fr f6 (by have := NE1.out; omega)); have BL6 := Lib.hid (BL5.out.trans (f6.below BL5.out.size (fun k hk => by have := HB0.out; omega))); have k6 := BQ6.out.rd; have q6 := BQ6.out.wr; clear s6 f6))
    have BK7 := Lib.hid (blk_set (i := 4) (v := .int .i64 kk) BK6.out BQ6.out (by have := NE1.out; omega))
    have BQ7 := Lib.hid (show Blk (w6.setCell ⟨bq, 4, none⟩ (.int .i64 kk)) bq 41 (reqC 4 rule 0 ⟨#[]⟩ kk) from by rw [setCell_obj BQ6.out]; exact setObj_at (lt_of_block BQ6.out) _)
    have BL7 := Lib.hid (BL6.out.trans ((fr_set (i := 4) (v := .int .i64 kk) BQ6.out).below BL6.out.size (fun k hk => by have := HB0.out; have := NE1.out; omega)))
    obtain ⟨w7, hw7⟩ : ∃ w7, w7 = w6.setCell ⟨bq, 4, none⟩ (.int .i64 kk) := ⟨_, rfl⟩
    rw [← hw7] at BK7 BQ7 BL7 ⊢
    clear k6 q6 hw7
    have k7 := BQ7.out.rd
    have k8 := BK7.out.rd
    have k9 := BK7.out.wr
    go_wp2
    rw [five_set BK7.out]
    refine bodyPost_ret (results_cell_row rfl _ _ b0 _ _ (0, 0) _ rfl (setObj_at (lt_of_block BK7.out) _) Try.underlying41 rfl (by kernel_rfl)) rfl ⟨?_, ?_⟩
    · rw [reqZ4 HZ.out, ← HOP.out, ← HRU.out, ← HK.out]; rfl
    · exact BL7.out.trans ((Fr.setObj (F := fun k => k = b0) (Fr.refl _ _) rfl _).below BL7.out.size (fun k hk => by have := HB0.out; omega))
  · have HZ := Lib.hid h2
    obtain ⟨sz, hsz⟩ : ∃ sz : Nat, z.getD 10 0 = (sz : Int) := ⟨(z.getD 10 0).toNat, by omega⟩
    have hn11 : 11 + sz ≤ n := by omega
    have hsz8 : sz ≤ 255 := by have := byt_getD HBY.out 10; omega
    have HSZ := Lib.hid (show 4 + (z.getD 3 0).toNat = 11 + sz from by omega)
    obtain ⟨cost, hcost⟩ : ∃ x, x = preZ (z.drop 6) 4 := ⟨_, rfl⟩
    have bc := pre_bd (byt_drop HBY.out 6) 4
    have e256 : (256 : Int) ^ 4 = 4294967296 := rfl
    rw [e256, ← hcost] at bc
    have HC := Lib.hid hcost
    have e3 : IntKind.u32.wrap cost = cost := by rw [IntKind.wrap_u32]; omega
    have e4 : IntKind.i64.wrap (sz : Int) = (sz : Int) := by rw [IntKind.wrap_i64]; omega
    have P10 := Lib.hid (show preZ (z.drop 10) 1 = (sz : Int) from by rw [pre1, ← hsz]; simp [List.getD])
    have D10 := Lib.hid (show (z.drop 6).drop 4 = z.drop 10 from by rw [List.drop_drop])
    have t4 : (op == 4) = false := by rcases h1 with rfl | rfl <;> rfl
    have t12 : (op == 1) = true ∨ ((op == 1) = false ∧ (op == 2) = true) := by rcases h1 with rfl | rfl <;> simp
    have k0 := BK5.out.rd
    have gz1 : (11 : Int) + (sz : Int) ≤ (c : Int) := by omega
    have gz2 : (sz : Int) ≤ 255 := by omega
    have gz3 : (11 : Int) ≤ (11 : Int) + (sz : Int) := by omega
    clear h2 h3 h4 hsz hcost e256 h1 HX
    rcases t12 with t1 | ⟨t1, t2⟩
    all_goals
      go_upto_region 9 with (go_at_call 45; ((with_reducible refine (next_x (b0 + 1) d (z.drop 6) (z.drop 10) cost 4 4 rfl (by omega) (by rw [List.length_drop, HL.out]; omega) (by omega) _ S5.out HDN.out HC.out.symm D10.out).mono ?_); rintro e w6 ⟨rfl, s6, f6⟩; have S6 := Lib.hid s6; have BK6 := Lib.hid (BK5.out.fr f6 (by omega)); have BQ6 := Lib.hid (BQ.out.fr f6 (by have := NE1.out; omega)); have BL6 := Lib.hid (BL5.out.trans (f6.below BL5.out.size (fun k hk => by have := HB0.out; omega))); have k6 := BQ6.out.rd; have q6 := BQ6.out.wr; clear s6 f6))
      have BK7 := Lib.hid (blk_set (i := 2) (v := .int .u32 cost) BK6.out BQ6.out (by have := NE1.out; omega))
      have BQ7 := Lib.hid (show Blk (w6.setCell ⟨bq, 2, none⟩ (.int .u32 cost)) bq 41 (reqC op rule cost ⟨#[]⟩ 0) from by rw [setCell_obj BQ6.out]; exact setObj_at (lt_of_block BQ6.out) _)
      have S7 := Lib.hid (S6.out.fr (fr_set (i := 2) (v := .int .u32 cost) BQ6.out) (by have := NE1.out; omega) HDQ.out)
      have BL7 := Lib.hid (BL6.out.trans ((fr_set (i := 2) (v := .int .u32 cost) BQ6.out).below BL6.out.size (fun k hk => by have := HB0.out; have := NE1.out; omega)))
      obtain ⟨w7, hw7⟩ : ∃ w7, w7 = w6.setCell ⟨bq, 2, none⟩ (.int .u32 cost) := ⟨_, rfl⟩
      rw [← hw7] at BK7 BQ7 BL7 S7 ⊢
      clear k6 q6 hw7 k5 q5 k0
      go_upto_region 10 with (go_at_call 45; ((with_reducible refine (next_x (b0 + 1) d (z.drop 10) ((z.drop 10).drop 1) (sz : Int) 1 1 rfl (by omega) (by rw [List.length_drop, HL.out]; omega) (by omega) _ S7.out HDN.out P10.out rfl).mono ?_); rintro e w8 ⟨rfl, s8, f8⟩; have BK8 := Lib.hid (BK7.out.fr f8 (by omega)); have BQ8 := Lib.hid (BQ7.out.fr f8 (by have := NE1.out; omega)); have BL8 := Lib.hid (BL7.out.trans (f8.below BL7.out.size (fun k hk => by have := HB0.out; omega))); have k8 := BQ8.out.rd; have q8 := BQ8.out.wr; clear s8 f8))
      obtain ⟨key, hkey⟩ : ∃ key, key = strOfNums ((z.take (11 + sz)).drop 11) := ⟨_, rfl⟩
      have HKEY := Lib.hid hkey
      have RZ := HR.out.below (w' := w8) (BL8.out.mono (Nat.le_refl _))
      by_cases hc11 : c = 11
      · have hs0 : sz = 0 := by omega
        have hcv : (convert 27 9 (.slice (some ⟨d, off, none⟩) 0 0)).run Try.prog w8 = .ok (.string key) w8 := by
          rw [conv_str (by rfl) (by rfl) (by rfl) (rdI_none (w := w8) (k := .u8) (A := some ⟨d, off, none⟩) (c := 0) (by unfold maxLen; omega)), hkey, hs0]
          congr 3
          rw [List.drop_eq_nil_of_le (by rw [List.length_take]; omega)]
        subst hs0
        subst hc11
        clear RZ hkey
        go_upto_region 11 with (fail)
        have BK9 := Lib.hid (blk_set (i := 3) (v := .string key) BK8.out BQ8.out (by have := NE1.out; omega))
        have BQ9 := Lib.hid (show Blk (w8.setCell ⟨bq, 3, none⟩ (.string key)) bq 41 (reqC op rule cost key 0) from by rw [setCell_obj BQ8.out]; exact setObj_at (lt_of_block BQ8.out) _)
        have BL9 := Lib.hid (BL8.out.trans ((fr_set (i := 3) (v := .string key) BQ8.out).below BL8.out.size (fun k hk => by have := HB0.out; have := NE1.out; omega)))
        obtain ⟨w9, hw9⟩ : ∃ w9, w9 = w8.setCell ⟨bq, 3, none⟩ (.string key) := ⟨_, rfl⟩
        rw [← hw9] at BK9 BQ9 BL9 ⊢
        clear k8 q8 hw9 hcv
        have k9 := BQ9.out.rd
        have k10 := BK9.out.rd
        have k11 := BK9.out.wr
        go_wp2
        rw [five_set BK9.out]
        refine bodyPost_ret (results_cell_row rfl _ _ b0 _ _ (0, 0) _ rfl (setObj_at (lt_of_block BK9.out) _) Try.underlying41 rfl (by kernel_rfl)) rfl ⟨?_, ?_⟩
        · rw [reqZ7 HZ.out, ← HOP.out, ← HRU.out, ← HC.out, HSZ.out, HKEY.out]; rfl
        · exact BL9.out.trans ((Fr.setObj (F := fun k => k = b0) (Fr.refl _ _) rfl _).below BL9.out.size (fun k hk => by have := HB0.out; omega))
      · have hcv : (convert 27 9 (.slice (some ⟨d, off + 11, none⟩) sz (c - 11))).run Try.prog w8 = .ok (.string key) w8 := by
          have r1 := rdI_end RZ (m := 11) (by omega)
          have r2 : RdI w8 .u8 (some ⟨d, off + 11, none⟩) sz (c - 11) ((z.take (11 + sz)).drop 11) := by
            refine ⟨by rw [List.length_drop, List.length_take, HL.out]; omega, by omega, by have := r1.max; omega, fun h0 => ?_, fun x hx => HR.out.wf x (List.mem_of_mem_take (List.mem_of_mem_drop hx))⟩
            obtain ⟨b', off', e, hlt, hcs⟩ := r1.at_ (by omega)
            refine ⟨b', off', e, hlt, fun i hi => ?_⟩
            rw [hcs i (by omega)]
            simp [List.getD, List.getElem?_take, show 11 + i < 11 + sz by omega]
          rw [conv_str (by rfl) (by rfl) (by rfl) r2, hkey]
        clear RZ hkey
        go_upto_region 11 with (fail)
        have BK9 := Lib.hid (blk_set (i := 3) (v := .string key) BK8.out BQ8.out (by have := NE1.out; omega))
        have BQ9 := Lib.hid (show Blk (w8.setCell ⟨bq, 3, none⟩ (.string key)) bq 41 (reqC op rule cost key 0) from by rw [setCell_obj BQ8.out]; exact setObj_at (lt_of_block BQ8.out) _)
        have BL9 := Lib.hid (BL8.out.trans ((fr_set (i := 3) (v := .string key) BQ8.out).below BL8.out.size (fun k hk => by have := HB0.out; have := NE1.out; omega)))
        obtain ⟨w9, hw9⟩ : ∃ w9, w9 = w8.setCell ⟨bq, 3, none⟩ (.string key) := ⟨_, rfl⟩
        rw [← hw9] at BK9 BQ9 BL9 ⊢
        clear k8 q8 hw9 hcv
        have k9 := BQ9.out.rd
        have k10 := BK9.out.rd
        have k11 := BK9.out.wr
        go_wp2
        rw [five_set BK9.out]
        refine bodyPost_ret (results_cell_row rfl _ _ b0 _ _ (0, 0) _ rfl (setObj_at (lt_of_block BK9.out) _) Try.underlying41 rfl (by kernel_rfl)) rfl ⟨?_, ?_⟩
        · rw [reqZ7 HZ.out, ← HOP.out, ← HRU.out, ← HC.out, HSZ.out, HKEY.out]; rfl
        · exact BL9.out.trans ((Fr.setObj (F := fun k => k = b0) (Fr.refl _ _) rfl _).below BL9.out.size (fun k hk => by have := HB0.out; omega))
end Go.Proofs.Ytaghookljjpllaa
