/- The contracts of layer 17 (config): Encode. -/
import Derived.Test.YtfpknklnbgmflaaCfS
import Derived.Test.YtfpknklnbgmflaaCfO
namespace Go.Proofs.Ytfpknklnbgmflaa
set_option linter.unusedSimpArgs false
set_option linter.unusedVariables false
open Go.ChangeShapes Go.WideShapes Go.ChangeAt Go.RowKit Go.Deep
def ruL (r : RuZ) : List Int := [r.L, r.W, r.B, r.Sl, r.Ce, r.Ro, r.Wi, r.Tr, if r.sm then 1 else 0]
def rulesZ : List RuZ → List Int
  | [] => []
  | r :: l => flat8 (ruL r) ++ rulesZ l
theorem rulesZ_app : ∀ l m, rulesZ (l ++ m) = rulesZ l ++ rulesZ m
  | [], _ => rfl
  | x :: l, m => by rw [List.cons_append, rulesZ, rulesZ, rulesZ_app l m, List.append_assoc]
theorem rulesZ_length : ∀ l, (rulesZ l).length = 72 * l.length
  | [] => rfl
  | x :: l => by rw [rulesZ, List.length_append, flat8_length, rulesZ_length l, List.length_cons]; show 8 * 9 + _ = _; omega
/-- a configuration's bytes. -/
def cfgZ (Bu Co Ou : Int) (rs : List RuZ) : List Int := flat8 [Bu, Co, Ou, (rs.length : Int)] ++ rulesZ rs
theorem cfgZ_length (Bu Co Ou : Int) (rs : List RuZ) : (cfgZ Bu Co Ou rs).length = 32 + 72 * rs.length := by
  unfold cfgZ
  rw [List.length_append, flat8_length, rulesZ_length]
  rfl
theorem flat8_byt : ∀ l, byt (flat8 l)
  | [] => fun z hz => by cases hz
  | x :: l => byt_app (be_byt 8 x) (flat8_byt l)
theorem rulesZ_byt : ∀ l, byt (rulesZ l)
  | [] => fun z hz => by cases hz
  | x :: l => byt_app (flat8_byt _) (rulesZ_byt l)
theorem cfgZ_byt (Bu Co Ou : Int) (rs : List RuZ) : byt (cfgZ Bu Co Ou rs) := byt_app (flat8_byt _) (rulesZ_byt rs)
theorem i64_of {x : Int} (h : i64In x) : i64P x := h
theorem ruL_i64 {r : RuZ} (h : r.ok) : ∀ x ∈ ruL r, i64P x := by
  obtain ⟨L, W, B, Sl, Ce, Ro, Wi, Tr, sm⟩ := r
  obtain ⟨h0, h1, h2, h3, h4, h5, h6, h7⟩ := h
  intro x hx
  simp only [ruL, List.mem_cons, List.not_mem_nil, or_false] at hx
  rcases hx with rfl | rfl | rfl | rfl | rfl | rfl | rfl | rfl | rfl
  · exact h0
  · exact h1
  · exact h2
  · exact h3
  · exact h4
  · exact h5
  · exact h6
  · exact h7
  · unfold i64P; split <;> omega
set_option maxHeartbeats 8000000 in
set_option maxRecDepth 100000 in
theorem cencode_any (Bu Co Ou : Int) (A : Option Addr) (n c : Nat) (rs : List RuZ) (hb3 : i64In Bu ∧ i64In Co ∧ i64In Ou) (hn : n ≤ 100) (w : World) (hr : RdRu w A n c rs) :
    Calls Try.prog 18 #[.agg #[.int .i64 Bu, .int .i64 Co, .int .i64 Ou, .slice A n c]] w fun e w' => ∃ v', e = .returned v' ∧ Own w' w.heap.size v' (cfgZ Bu Co Ou rs) ∧ Below w.heap.size w w' := by
  have hcp := hr.cap
  have hmx := hr.max
  unfold maxLen at hmx
  have HR := Lib.hid hr
  have HL := Lib.hid hr.len
  have BOX := Lib.hid (box_new w (coC Bu Co Ou (.slice A n c)) 29)
  have HX4 := Lib.hid (show ∀ x ∈ [Bu, Co, Ou, (n : Int)], i64P x from by
    intro x hx
    simp only [List.mem_cons, List.not_mem_nil, or_false] at hx
    rcases hx with rfl | rfl | rfl | rfl
    · exact hb3.1
    · exact hb3.2.1
    · exact hb3.2.2
    · unfold i64P; omega)
  have hnb : (n : Int) ≤ 100 := by omega
  obtain ⟨B, hB⟩ : ∃ B, B = w.heap.size := ⟨_, rfl⟩
  have HB := Lib.hid hB
  clear hr hb3 hn hB
  go_enter Try.func18, Try.ntmps18
  go_upto_region 1 with (fail)
  obtain ⟨w1, hw1, hbk, hbl, hsz1⟩ := BOX.out
  change Code.wp _ _ _ _ (w.alloc (.cells (coC Bu Co Ou (.slice A n c)) 29))
  rw [hw1]
  rw [← HB.out] at hbk hsz1 ⊢
  have K1 := Lib.hid hbk
  have BL1 := Lib.hid hbl
  have HS1 := Lib.hid hsz1
  have k1 := hbk.rd
  have KI := Lib.hid (heap_alloc_new w1 (.cells #[.int .i64 Bu, .int .i64 Co, .int .i64 Ou, .int .i64 (n : Int)] 2))
  have CW := Lib.hid (cwritten_any B w1.heap.size 4 (.slice none 0 0) [] [Bu, Co, Ou, (n : Int)] rfl (by omega) HX4.out (by simp) (w1.alloc (.cells #[.int .i64 Bu, .int .i64 Co, .int .i64 Ou, .int .i64 (n : Int)] 2)) (own_nil _ _) (by have := HS1.out; simp; omega) KI.out)
  have FA := Lib.hid (show FrU B w1 (w1.alloc (.cells #[.int .i64 Bu, .int .i64 Co, .int .i64 Ou, .int .i64 (n : Int)] 2)) from FrU.alloc (by have := HS1.out; omega) _)
  clear hbk hbl hsz1 hw1 BOX
  go_upto_region 2 with (go_at_call 30; ((with_reducible refine CW.out.mono ?_); rintro e w2 ⟨v2, rfl, o2, f2⟩; have O2 := Lib.hid o2; have F2 := Lib.hid (FA.out.trans f2); clear o2 f2))
  have k2 := (F2.out.blk K1.out (.inr (by decide))).rd
  clear k1
  go_upto_region 3 with (fail)
  clear k2
  go_loopg [3, 21] n (fun k s3 s21 wr => ∃ i : Nat, i ≤ n ∧ k = n - i ∧ s21 = .int .i64 (i : Int) ∧ Own wr B s3 (flat8 [Bu, Co, Ou, (n : Int)] ++ rulesZ (rs.take i)) ∧ FrU B w1 wr)
  case atStart => exact ⟨0, by omega, by omega, rfl, by simpa [rulesZ] using O2.out, F2.out⟩
  case round =>
    obtain ⟨i, hi, hkk, rfl, hown, hf⟩ := hrel
    have HK := Lib.hid hkk
    have HO := Lib.hid hown
    have HF := Lib.hid hf
    have HBW := Lib.hid (show Below w.heap.size w wr from BL1.out.trans (by have h := hf.below (by have := HS1.out; omega); rwa [HB.out] at h))
    have HBS := Lib.hid (show B ≤ wr.heap.size from by have := HS1.out; have := hf.size; omega)
    clear hkk hown hf
    by_cases hin : i < n
    · have hir : i < rs.length := by rw [HL.out]; exact hin
      obtain ⟨g, off, e', hlt, hc⟩ := (HR.out.below HBW.out).at_ (by omega)
      subst e'
      have c0 := hc i hir 0 (by omega)
      have c1 := hc i hir 1 (by omega)
      have c2 := hc i hir 2 (by omega)
      have c3 := hc i hir 3 (by omega)
      have c4 := hc i hir 4 (by omega)
      have c5 := hc i hir 5 (by omega)
      have c6 := hc i hir 6 (by omega)
      have c7 := hc i hir 7 (by omega)
      have c8 := hc i hir 8 (by omega)
      have hrk := HR.out.ok _ (List.getElem_mem hir)
      obtain ⟨r, hrr⟩ : ∃ r, r = rs[i] := ⟨_, rfl⟩
      have HRZ := Lib.hid (show rulesZ (rs.take (i + 1)) = rulesZ (rs.take i) ++ flat8 (ruL r) from by
        rw [List.take_succ_eq_append_getElem hir, rulesZ_app, ← hrr]; simp [rulesZ])
      rw [← hrr] at c0 c1 c2 c3 c4 c5 c6 c7 c8 hrk
      obtain ⟨L, W, Bb, Sl, Ce, Ro, Wi, Tr, sm⟩ := r
      have HX9 := Lib.hid (ruL_i64 hrk)
      simp [RuZ.c] at c0 c1 c2 c3 c4 c5 c6 c7 c8
      have HLN := Lib.hid (show (flat8 [Bu, Co, Ou, (n : Int)] ++ rulesZ (rs.take i)).length ≤ 8000 from by
        rw [List.length_append, flat8_length, rulesZ_length, List.length_take]; show 8 * 4 + _ ≤ _; omega)
      clear hc hlt hrk hrr
      go_upto_region 5 with (fail)
      clear c0 c1 c2 c3 c4 c5 c6 c7 c8
      obtain ⟨w3, hw3, hbk, hbl, hsz3⟩ := box_new wr (ruC L W Bb Sl Ce Ro Wi Tr sm) 23
      change Code.wp _ _ _ _ (wr.alloc (.cells (ruC L W Bb Sl Ce Ro Wi Tr sm) 23))
      rw [hw3]
      obtain ⟨b3, hb3⟩ : ∃ b3, b3 = wr.heap.size := ⟨_, rfl⟩
      rw [← hb3] at hbk ⊢
      have k3 := hbk.rd
      have O3 := Lib.hid (HO.out.below hbl)
      have F3 := Lib.hid (HF.out.trans (FrU.of_below (B := B) hbl))
      have HBS3 := Lib.hid (show B ≤ w3.heap.size from by have := HBS.out; omega)
      clear hw3 hbk hbl hsz3 hb3
      cases sm with
      | true =>
        have KI3 := Lib.hid (heap_alloc_new w3 (.cells #[.int .i64 L, .int .i64 W, .int .i64 Bb, .int .i64 Sl, .int .i64 Ce, .int .i64 Ro, .int .i64 Wi, .int .i64 Tr, .int .i64 1] 2))
        have CW3 := Lib.hid (cwritten_any B w3.heap.size 9 u3 (flat8 [Bu, Co, Ou, (n : Int)] ++ rulesZ (rs.take i)) (ruL ⟨L, W, Bb, Sl, Ce, Ro, Wi, Tr, true⟩) rfl (by omega) HX9.out (by have := HLN.out; omega) (w3.alloc (.cells #[.int .i64 L, .int .i64 W, .int .i64 Bb, .int .i64 Sl, .int .i64 Ce, .int .i64 Ro, .int .i64 Wi, .int .i64 Tr, .int .i64 1] 2)) (O3.out.below ((Below.refl _ _).alloc (Nat.le_refl _) _)) (by have := HBS3.out; simp; omega) KI3.out)
        go_wp2_with (go_at_call 30; ((with_reducible refine CW3.out.mono ?_); rintro e w4 ⟨v4, rfl, o4, f4⟩; have O4 := Lib.hid o4; have F4 := Lib.hid (F3.out.trans ((FrU.alloc HBS3.out _).trans f4)); clear o4 f4))
        go_roundg (n - (i + 1))
        case measure => have := HK.out; omega
        case rel => exact ⟨i + 1, by omega, by omega, by go_num, by rw [HRZ.out, ← List.append_assoc]; exact O4.out, F4.out⟩
      | false =>
        have KI3 := Lib.hid (heap_alloc_new w3 (.cells #[.int .i64 L, .int .i64 W, .int .i64 Bb, .int .i64 Sl, .int .i64 Ce, .int .i64 Ro, .int .i64 Wi, .int .i64 Tr, .int .i64 0] 2))
        have CW3 := Lib.hid (cwritten_any B w3.heap.size 9 u3 (flat8 [Bu, Co, Ou, (n : Int)] ++ rulesZ (rs.take i)) (ruL ⟨L, W, Bb, Sl, Ce, Ro, Wi, Tr, false⟩) rfl (by omega) HX9.out (by have := HLN.out; omega) (w3.alloc (.cells #[.int .i64 L, .int .i64 W, .int .i64 Bb, .int .i64 Sl, .int .i64 Ce, .int .i64 Ro, .int .i64 Wi, .int .i64 Tr, .int .i64 0] 2)) (O3.out.below ((Below.refl _ _).alloc (Nat.le_refl _) _)) (by have := HBS3.out; simp; omega) KI3.out)
        go_wp2_with (go_at_call 30; ((with_reducible refine CW3.out.mono ?_); rintro e w4 ⟨v4, rfl, o4, f4⟩; have O4 := Lib.hid o4; have F4 := Lib.hid (F3.out.trans ((FrU.alloc HBS3.out _).trans f4)); clear o4 f4))
        go_roundg (n - (i + 1))
        case measure => have := HK.out; omega
        case rel => exact ⟨i + 1, by omega, by omega, by go_num, by rw [HRZ.out, ← List.append_assoc]; exact O4.out, F4.out⟩
    · have hie : n = i := by omega
      subst hie
      have O9 := Lib.hid (show Own wr B u3 (cfgZ Bu Co Ou rs) from by
        have h := HO.out
        rw [List.take_of_length_le (by rw [HL.out]; exact Nat.le_refl _)] at h
        unfold cfgZ
        rw [HL.out]
        exact h)
      go_wp2
      go_ret
      exact ⟨_, rfl, (by have h := O9.out; rw [HB.out] at h; exact h), HBW.out⟩
end Go.Proofs.Ytfpknklnbgmflaa
