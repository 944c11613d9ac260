/- The contracts of layer 13 (frame): the document's Parse. -/
import Derived.Test.YtaghookljjpllaaFrH
namespace Go.Proofs.Ytaghookljjpllaa
set_option linter.unusedSimpArgs false
set_option linter.unusedVariables false
open Go.ChangeShapes Go.WideShapes Go.ChangeAt Go.RowKit
/-- what holds ahead of byte i: no fault, and no request that ended earlier. -/
def upto (z : List Int) (rules : Int) (i : Nat) : Prop := ∀ t < i, fltZ z rules t = 0 ∧ (wholeAt z t → t + 1 = i)
theorem upto_clean {z : List Int} {rules : Int} {i : Nat} (h : upto z rules i) (hn : i ≤ 3 ∨ (i : Int) < 4 + z.getD 3 0) : cleanZ z rules i := fun t ht => by
  refine ⟨(h t ht).1, fun g => ?_⟩
  have := (h t ht).2 g
  obtain ⟨g1, g2⟩ := g
  omega
theorem upto_step {z : List Int} {rules : Int} {i : Nat} (h : upto z rules i) (hn : i ≤ 3 ∨ (i : Int) < 4 + z.getD 3 0) (hf : fltZ z rules i = 0) : upto z rules (i + 1) := fun t ht => by
  rcases Nat.lt_succ_iff_lt_or_eq.1 ht with g | rfl
  · exact ⟨(h t g).1, fun w => absurd w (upto_clean h hn t g).2⟩
  · exact ⟨hf, fun _ => rfl⟩
theorem upto_end {z : List Int} {rules : Int} {i : Nat} (h : upto z rules i) (h0 : 0 ≤ z.getD 3 0) (h3 : 3 < i) (hi : 4 + z.getD 3 0 ≤ (i : Int)) : (i : Int) = 4 + z.getD 3 0 ∧ cleanZ z rules (i - 1) ∧ fltZ z rules (i - 1) = 0 ∧ wholeAt z (i - 1) := by
  have hw : wholeAt z (3 + (z.getD 3 0).toNat) := ⟨by omega, by omega⟩
  have e := (h (3 + (z.getD 3 0).toNat) (by omega)).2 hw
  have ei : i - 1 = 3 + (z.getD 3 0).toNat := by omega
  refine ⟨by omega, fun t ht => ⟨(h t (by omega)).1, fun g => ?_⟩, (h (i - 1) (by omega)).1, by rw [ei]; exact hw⟩
  have := (h t (by omega)).2 g
  omega
set_option maxHeartbeats 60000000 in
set_option maxRecDepth 100000 in
theorem rparse_any (A : Option Addr) (n c : Nat) (z : List Int) (rules : Int) (w : World) (hr : RdI w .u8 A n c z) :
    Calls Try.prog 26 #[.slice A n c, .int .i64 rules] w fun e w' => e = .returned (parsedV (parseZ z rules)) ∧ Below w.heap.size w w' := by
  have hcp := hr.cap
  have hmx := hr.max
  have HL := Lib.hid hr.len
  have HBY := Lib.hid (show byt z from fun x hx => wf_u8 (hr.wf x hx))
  unfold maxLen at hmx
  have HR := Lib.hid hr
  clear hr
  go_enter Try.func26, Try.ntmps26
  go_upto_region 1 with (fail)
  obtain ⟨w1, hw1, hbk, hbl, hsz1⟩ := box_new w (reqC 0 0 0 ⟨#[]⟩ 0) 41
  change Code.wp _ _ _ _ (w.alloc (.cells (reqC 0 0 0 ⟨#[]⟩ 0) 41))
  rw [hw1]
  obtain ⟨b0, hb0⟩ : ∃ b0, b0 = w.heap.size := ⟨_, rfl⟩
  rw [← hb0] at hbk ⊢
  have HB0 := Lib.hid hb0
  have BK := Lib.hid hbk
  have BL := Lib.hid hbl
  have S1 := Lib.hid (show w1.heap.size = b0 + 1 from by rw [hsz1, hb0])
  clear hbk hbl hsz1 hw1 hb0
  go_wp2
  go_loopg [7, 8] n (fun k s7 s8 wr => ∃ (i : Nat) (m : Int), i ≤ n ∧ k = n - i ∧ s8 = .int .i64 (i : Int) ∧ s7 = .int .i64 m ∧ (i ≤ 3 → m = 0) ∧ (3 < i → m = z.getD 3 0) ∧ upto z rules i ∧ wr = w1)
  case atStart => exact ⟨0, 0, by omega, by omega, rfl, rfl, fun _ => rfl, fun h => absurd h (by omega), fun i hi => absurd hi (by omega), rfl⟩
  case round =>
    obtain ⟨i, m, hi, hkk, rfl, rfl, hm0, hm3, hup, rfl⟩ := hrel
    have HK := Lib.hid hkk
    have HU := Lib.hid hup
    have k0 := BK.out.wr
    have k1 := BK.out.rd
    have hmb : 0 ≤ m ∧ m ≤ 255 := by
      by_cases g : i ≤ 3
      · rw [hm0 g]; omega
      · rw [hm3 (by omega)]; exact byt_getD HBY.out 3
    clear hkk hup
    by_cases hgo : i < n ∧ (i ≤ 3 ∨ (i : Int) < 4 + m)
    · obtain ⟨hin, hgo⟩ := hgo
      have HGO := Lib.hid (show i ≤ 3 ∨ (i : Int) < 4 + z.getD 3 0 from by
        rcases hgo with g | g
        · exact .inl g
        · by_cases g3 : i ≤ 3
          · exact .inl g3
          · rw [← hm3 (by omega)]; exact .inr g)
      obtain ⟨d, off, rfl, _, hc⟩ := (HR.out.below BL.out).at_ (by omega)
      have c0 := hc i hin
      obtain ⟨x, hx⟩ : ∃ x, x = z.getD i 0 := ⟨_, rfl⟩
      have hxb : 0 ≤ x ∧ x ≤ 255 := by rw [hx]; exact byt_getD HBY.out i
      rw [← hx] at c0
      have HX := Lib.hid hx
      have HM0 := Lib.hid hm0
      have HM3 := Lib.hid hm3
      have g2 : (i : Int) < (n : Int) := by omega
      have HIN := Lib.hid hin
      clear hx hc
      by_cases hi0 : i = 0
      · have e0 : ((i : Int) == 0) = true := by rw [hi0]; rfl
        have e1 : ((i : Int) == 1) = false := by simp; omega
        have e2 : ((i : Int) == 2) = false := by simp; omega
        have e3 : ((i : Int) == 3) = false := by simp; omega
        have e4 : ((i : Int) == 4) = false := by simp; omega
        have e5 : ((i : Int) == 5) = false := by simp; omega
        have e10 : ((i : Int) == 10) = false := by simp; omega
        have hways : (x = 167) ∨ (x ≠ 167) := by omega
        rcases hways with hw | hw
        · have HV := Lib.hid (show fltZ z rules i = 0 from by
            have q1 := HX.out
            unfold fltZ
            simp only [← q1]
            subst hi0
            simp <;> omega)
          have f2 : decide ((3 : Int) < (i : Int)) = false := by simp; omega
          have t1 : (x != 167) = false := by simpa using hw
          have HNE := Lib.hid (show i ≠ 3 from by omega)
          clear hm0 hm3 hgo hin hi0
          go_wp2
          go_roundg (n - (i + 1))
          case measure => have := HK.out; have := HIN.out; omega
          case rel => exact ⟨i + 1, m, by have := HIN.out; omega, by omega, by go_num, rfl, fun h => HM0.out (by omega), fun h => HM3.out (by have := HNE.out; omega), upto_step HU.out HGO.out HV.out, rfl⟩
        · have HV := Lib.hid (show fltZ z rules i = 5 from by
            have q1 := HX.out
            unfold fltZ
            simp only [← q1]
            subst hi0
            simp <;> omega)
          have f2 : decide ((3 : Int) < (i : Int)) = false := by simp; omega
          have t1 : (x != 167) = true := by simpa using hw
          clear hm0 hm3 hgo hin hi0
          go_wp2
          rw [five_set BK.out]
          refine bodyPost_ret (results_cell2 rfl _ _ b0 _ _ (0, 0) _ rfl (setObj_at (lt_of_block BK.out) _) Try.underlying41 rfl (by kernel_rfl)) rfl ⟨?_, ?_⟩
          · rw [parse_fault i (by rw [HL.out]; exact HIN.out) (upto_clean HU.out HGO.out) (by rw [HV.out]; decide), HV.out]; rfl
          · exact BL.out.trans ((Fr.setObj (F := fun k => k = b0) (Fr.refl _ _) rfl _).below BL.out.size (fun k hk => by have := HB0.out; omega))
      by_cases hi0 : i = 1
      · have e0 : ((i : Int) == 0) = false := by simp; omega
        have e1 : ((i : Int) == 1) = true := by rw [hi0]; rfl
        have e2 : ((i : Int) == 2) = false := by simp; omega
        have e3 : ((i : Int) == 3) = false := by simp; omega
        have e4 : ((i : Int) == 4) = false := by simp; omega
        have e5 : ((i : Int) == 5) = false := by simp; omega
        have e10 : ((i : Int) == 10) = false := by simp; omega
        have hways : (x = 1) ∨ (x ≠ 1) := by omega
        rcases hways with hw | hw
        · have HV := Lib.hid (show fltZ z rules i = 0 from by
            have q1 := HX.out
            unfold fltZ
            simp only [← q1]
            subst hi0
            simp <;> omega)
          have f2 : decide ((3 : Int) < (i : Int)) = false := by simp; omega
          have t1 : (x != 1) = false := by simpa using hw
          have HNE := Lib.hid (show i ≠ 3 from by omega)
          clear hm0 hm3 hgo hin hi0
          go_wp2
          go_roundg (n - (i + 1))
          case measure => have := HK.out; have := HIN.out; omega
          case rel => exact ⟨i + 1, m, by have := HIN.out; omega, by omega, by go_num, rfl, fun h => HM0.out (by omega), fun h => HM3.out (by have := HNE.out; omega), upto_step HU.out HGO.out HV.out, rfl⟩
        · have HV := Lib.hid (show fltZ z rules i = 6 from by
            have q1 := HX.out
            unfold fltZ
            simp only [← q1]
            subst hi0
            simp <;> omega)
          have f2 : decide ((3 : Int) < (i : Int)) = false := by simp; omega
          have t1 : (x != 1) = true := by simpa using hw
          clear hm0 hm3 hgo hin hi0
          go_wp2
          rw [five_set BK.out]
          refine bodyPost_ret (results_cell2 rfl _ _ b0 _ _ (0, 0) _ rfl (setObj_at (lt_of_block BK.out) _) Try.underlying41 rfl (by kernel_rfl)) rfl ⟨?_, ?_⟩
          · rw [parse_fault i (by rw [HL.out]; exact HIN.out) (upto_clean HU.out HGO.out) (by rw [HV.out]; decide), HV.out]; rfl
          · exact BL.out.trans ((Fr.setObj (F := fun k => k = b0) (Fr.refl _ _) rfl _).below BL.out.size (fun k hk => by have := HB0.out; omega))
      by_cases hi0 : i = 2
      · have e0 : ((i : Int) == 0) = false := by simp; omega
        have e1 : ((i : Int) == 1) = false := by simp; omega
        have e2 : ((i : Int) == 2) = true := by rw [hi0]; rfl
        have e3 : ((i : Int) == 3) = false := by simp; omega
        have e4 : ((i : Int) == 4) = false := by simp; omega
        have e5 : ((i : Int) == 5) = false := by simp; omega
        have e10 : ((i : Int) == 10) = false := by simp; omega
        have hways : (x = 0) ∨ (x ≠ 0) := by omega
        rcases hways with hw | hw
        · have HV := Lib.hid (show fltZ z rules i = 0 from by
            have q1 := HX.out
            unfold fltZ
            simp only [← q1]
            subst hi0
            simp <;> omega)
          have f2 : decide ((3 : Int) < (i : Int)) = false := by simp; omega
          have t1 : (x != 0) = false := by simpa using hw
          have HNE := Lib.hid (show i ≠ 3 from by omega)
          clear hm0 hm3 hgo hin hi0
          go_wp2
          go_roundg (n - (i + 1))
          case measure => have := HK.out; have := HIN.out; omega
          case rel => exact ⟨i + 1, m, by have := HIN.out; omega, by omega, by go_num, rfl, fun h => HM0.out (by omega), fun h => HM3.out (by have := HNE.out; omega), upto_step HU.out HGO.out HV.out, rfl⟩
        · have HV := Lib.hid (show fltZ z rules i = 7 from by
            have q1 := HX.out
            unfold fltZ
            simp only [← q1]
            subst hi0
            simp <;> omega)
          have f2 : decide ((3 : Int) < (i : Int)) = false := by simp; omega
          have t1 : (x != 0) = true := by simpa using hw
          clear hm0 hm3 hgo hin hi0
          go_wp2
          rw [five_set BK.out]
          refine bodyPost_ret (results_cell2 rfl _ _ b0 _ _ (0, 0) _ rfl (setObj_at (lt_of_block BK.out) _) Try.underlying41 rfl (by kernel_rfl)) rfl ⟨?_, ?_⟩
          · rw [parse_fault i (by rw [HL.out]; exact HIN.out) (upto_clean HU.out HGO.out) (by rw [HV.out]; decide), HV.out]; rfl
          · exact BL.out.trans ((Fr.setObj (F := fun k => k = b0) (Fr.refl _ _) rfl _).below BL.out.size (fun k hk => by have := HB0.out; omega))
      by_cases hi0 : i = 3
      · have e0 : ((i : Int) == 0) = false := by simp; omega
        have e1 : ((i : Int) == 1) = false := by simp; omega
        have e2 : ((i : Int) == 2) = false := by simp; omega
        have e3 : ((i : Int) == 3) = true := by rw [hi0]; rfl
        have e4 : ((i : Int) == 4) = false := by simp; omega
        have e5 : ((i : Int) == 5) = false := by simp; omega
        have e10 : ((i : Int) == 10) = false := by simp; omega
        have hways : (x = 2 ∨ x = 3) ∨ (7 ≤ x ∧ x ≤ 71) ∨ (x < 2) ∨ (3 < x ∧ x < 7) ∨ (71 < x) := by omega
        rcases hways with hw | hw | hw | hw | hw
        · have HV := Lib.hid (show fltZ z rules i = 0 from by
            have q1 := HX.out
            unfold fltZ
            simp only [← q1]
            subst hi0
            simp <;> omega)
          have f2 : decide ((3 : Int) < (i : Int)) = false := by simp; omega
          have t1 : decide (x < 2) = false := by simp; omega
          have t2 : decide (3 < x) = false := by simp; omega
          have t3 : decide (71 < x) = false := by simp; omega
          have HI := Lib.hid hi0
          have HM := Lib.hid (show x = z.getD 3 0 from by have := HX.out; rw [hi0] at this; exact this)
          clear hm0 hm3 hgo hin hi0
          go_wp2
          go_roundg (n - (i + 1))
          case measure => have := HK.out; have := HIN.out; omega
          case rel => exact ⟨i + 1, x, by have := HIN.out; omega, by omega, by go_num, rfl, fun h => absurd h (by have := HI.out; omega), fun _ => HM.out, upto_step HU.out HGO.out HV.out, rfl⟩
        · have HV := Lib.hid (show fltZ z rules i = 0 from by
            have q1 := HX.out
            unfold fltZ
            simp only [← q1]
            subst hi0
            simp <;> omega)
          have f2 : decide ((3 : Int) < (i : Int)) = false := by simp; omega
          have t1 : decide (x < 2) = false := by simp; omega
          have t2 : decide (3 < x) = true := by simp; omega
          have t4 : decide (x < 7) = false := by simp; omega
          have t3 : decide (71 < x) = false := by simp; omega
          have HI := Lib.hid hi0
          have HM := Lib.hid (show x = z.getD 3 0 from by have := HX.out; rw [hi0] at this; exact this)
          clear hm0 hm3 hgo hin hi0
          go_wp2
          go_roundg (n - (i + 1))
          case measure => have := HK.out; have := HIN.out; omega
          case rel => exact ⟨i + 1, x, by have := HIN.out; omega, by omega, by go_num, rfl, fun h => absurd h (by have := HI.out; omega), fun _ => HM.out, upto_step HU.out HGO.out HV.out, rfl⟩
        · have HV := Lib.hid (show fltZ z rules i = 7 from by
            have q1 := HX.out
            unfold fltZ
            simp only [← q1]
            subst hi0
            simp <;> omega)
          have f2 : decide ((3 : Int) < (i : Int)) = false := by simp; omega
          have t1 : decide (x < 2) = true := by simp; omega
          clear hm0 hm3 hgo hin hi0
          go_wp2
          rw [five_set BK.out]
          refine bodyPost_ret (results_cell2 rfl _ _ b0 _ _ (0, 0) _ rfl (setObj_at (lt_of_block BK.out) _) Try.underlying41 rfl (by kernel_rfl)) rfl ⟨?_, ?_⟩
          · rw [parse_fault i (by rw [HL.out]; exact HIN.out) (upto_clean HU.out HGO.out) (by rw [HV.out]; decide), HV.out]; rfl
          · exact BL.out.trans ((Fr.setObj (F := fun k => k = b0) (Fr.refl _ _) rfl _).below BL.out.size (fun k hk => by have := HB0.out; omega))
        · have HV := Lib.hid (show fltZ z rules i = 7 from by
            have q1 := HX.out
            unfold fltZ
            simp only [← q1]
            subst hi0
            simp <;> omega)
          have f2 : decide ((3 : Int) < (i : Int)) = false := by simp; omega
          have t1 : decide (x < 2) = false := by simp; omega
          have t2 : decide (3 < x) = true := by simp; omega
          have t4 : decide (x < 7) = true := by simp; omega
          clear hm0 hm3 hgo hin hi0
          go_wp2
          rw [five_set BK.out]
          refine bodyPost_ret (results_cell2 rfl _ _ b0 _ _ (0, 0) _ rfl (setObj_at (lt_of_block BK.out) _) Try.underlying41 rfl (by kernel_rfl)) rfl ⟨?_, ?_⟩
          · rw [parse_fault i (by rw [HL.out]; exact HIN.out) (upto_clean HU.out HGO.out) (by rw [HV.out]; decide), HV.out]; rfl
          · exact BL.out.trans ((Fr.setObj (F := fun k => k = b0) (Fr.refl _ _) rfl _).below BL.out.size (fun k hk => by have := HB0.out; omega))
        · have HV := Lib.hid (show fltZ z rules i = 7 from by
            have q1 := HX.out
            unfold fltZ
            simp only [← q1]
            subst hi0
            simp <;> omega)
          have f2 : decide ((3 : Int) < (i : Int)) = false := by simp; omega
          have t1 : decide (x < 2) = false := by simp; omega
          have t2 : decide (3 < x) = true := by simp; omega
          have t4 : decide (x < 7) = false := by simp; omega
          have t3 : decide (71 < x) = true := by simp; omega
          clear hm0 hm3 hgo hin hi0
          go_wp2
          rw [five_set BK.out]
          refine bodyPost_ret (results_cell2 rfl _ _ b0 _ _ (0, 0) _ rfl (setObj_at (lt_of_block BK.out) _) Try.underlying41 rfl (by kernel_rfl)) rfl ⟨?_, ?_⟩
          · rw [parse_fault i (by rw [HL.out]; exact HIN.out) (upto_clean HU.out HGO.out) (by rw [HV.out]; decide), HV.out]; rfl
          · exact BL.out.trans ((Fr.setObj (F := fun k => k = b0) (Fr.refl _ _) rfl _).below BL.out.size (fun k hk => by have := HB0.out; omega))
      by_cases hi0 : i = 4
      · have e0 : ((i : Int) == 0) = false := by simp; omega
        have e1 : ((i : Int) == 1) = false := by simp; omega
        have e2 : ((i : Int) == 2) = false := by simp; omega
        have e3 : ((i : Int) == 3) = false := by simp; omega
        have e4 : ((i : Int) == 4) = true := by rw [hi0]; rfl
        have e5 : ((i : Int) == 5) = false := by simp; omega
        have e10 : ((i : Int) == 10) = false := by simp; omega
        have f1 : decide ((3 : Int) < (i : Int)) = true := by simp; omega
        have hways : (x = 3 ∧ m = 2) ∨ (x = 4 ∧ m = 3) ∨ (x = 1 ∧ 7 ≤ m) ∨ (x = 2 ∧ 7 ≤ m) ∨ (x = 3 ∧ m ≠ 2) ∨ (x = 4 ∧ m ≠ 3) ∨ (x = 1 ∧ m < 7) ∨ (x = 2 ∧ m < 7) ∨ (x ≠ 1 ∧ x ≠ 2 ∧ x ≠ 3 ∧ x ≠ 4) := by omega
        rcases hways with hw | hw | hw | hw | hw | hw | hw | hw | hw
        · have HV := Lib.hid (show fltZ z rules i = 0 from by
            have q1 := HX.out
            have q3 := hm3 (by omega)
            unfold fltZ
            simp only [← q1, ← q3]
            subst hi0
            simp <;> omega)
          have gm : (i : Int) < 4 + m := by omega
          have f2 : decide ((3 : Int) < (i : Int)) = true := by simp; omega
          have f3 : decide (4 + m ≤ (i : Int)) = false := by simp; omega
          have x1 : (x == 1) = false := by simp <;> omega
          have x2 : (x == 2) = false := by simp <;> omega
          have x3 : (x == 3) = true := by simp <;> omega
          have x4 : (x == 4) = false := by simp <;> omega
          have m2 : (m == 2) = true := by simp <;> omega
          have HNE := Lib.hid (show i ≠ 3 from by omega)
          clear hm0 hm3 hgo hin hi0
          go_wp2
          go_roundg (n - (i + 1))
          case measure => have := HK.out; have := HIN.out; omega
          case rel => exact ⟨i + 1, m, by have := HIN.out; omega, by omega, by go_num, rfl, fun h => HM0.out (by omega), fun h => HM3.out (by have := HNE.out; omega), upto_step HU.out HGO.out HV.out, rfl⟩
        · have HV := Lib.hid (show fltZ z rules i = 0 from by
            have q1 := HX.out
            have q3 := hm3 (by omega)
            unfold fltZ
            simp only [← q1, ← q3]
            subst hi0
            simp <;> omega)
          have gm : (i : Int) < 4 + m := by omega
          have f2 : decide ((3 : Int) < (i : Int)) = true := by simp; omega
          have f3 : decide (4 + m ≤ (i : Int)) = false := by simp; omega
          have x1 : (x == 1) = false := by simp <;> omega
          have x2 : (x == 2) = false := by simp <;> omega
          have x3 : (x == 3) = false := by simp <;> omega
          have x4 : (x == 4) = true := by simp <;> omega
          have m3 : (m == 3) = true := by simp <;> omega
          have HNE := Lib.hid (show i ≠ 3 from by omega)
          clear hm0 hm3 hgo hin hi0
          go_wp2
          go_roundg (n - (i + 1))
          case measure => have := HK.out; have := HIN.out; omega
          case rel => exact ⟨i + 1, m, by have := HIN.out; omega, by omega, by go_num, rfl, fun h => HM0.out (by omega), fun h => HM3.out (by have := HNE.out; omega), upto_step HU.out HGO.out HV.out, rfl⟩
        · have HV := Lib.hid (show fltZ z rules i = 0 from by
            have q1 := HX.out
            have q3 := hm3 (by omega)
            unfold fltZ
            simp only [← q1, ← q3]
            subst hi0
            simp <;> omega)
          have gm : (i : Int) < 4 + m := by omega
          have f2 : decide ((3 : Int) < (i : Int)) = true := by simp; omega
          have f3 : decide (4 + m ≤ (i : Int)) = false := by simp; omega
          have x1 : (x == 1) = true := by simp <;> omega
          have x2 : (x == 2) = false := by simp <;> omega
          have x3 : (x == 3) = false := by simp <;> omega
          have x4 : (x == 4) = false := by simp <;> omega
          have m7 : decide (7 ≤ m) = true := by simp; omega
          have HNE := Lib.hid (show i ≠ 3 from by omega)
          clear hm0 hm3 hgo hin hi0
          go_wp2
          go_roundg (n - (i + 1))
          case measure => have := HK.out; have := HIN.out; omega
          case rel => exact ⟨i + 1, m, by have := HIN.out; omega, by omega, by go_num, rfl, fun h => HM0.out (by omega), fun h => HM3.out (by have := HNE.out; omega), upto_step HU.out HGO.out HV.out, rfl⟩
        · have HV := Lib.hid (show fltZ z rules i = 0 from by
            have q1 := HX.out
            have q3 := hm3 (by omega)
            unfold fltZ
            simp only [← q1, ← q3]
            subst hi0
            simp <;> omega)
          have gm : (i : Int) < 4 + m := by omega
          have f2 : decide ((3 : Int) < (i : Int)) = true := by simp; omega
          have f3 : decide (4 + m ≤ (i : Int)) = false := by simp; omega
          have x1 : (x == 1) = false := by simp <;> omega
          have x2 : (x == 2) = true := by simp <;> omega
          have x3 : (x == 3) = false := by simp <;> omega
          have x4 : (x == 4) = false := by simp <;> omega
          have m7 : decide (7 ≤ m) = true := by simp; omega
          have HNE := Lib.hid (show i ≠ 3 from by omega)
          clear hm0 hm3 hgo hin hi0
          go_wp2
          go_roundg (n - (i + 1))
          case measure => have := HK.out; have := HIN.out; omega
          case rel => exact ⟨i + 1, m, by have := HIN.out; omega, by omega, by go_num, rfl, fun h => HM0.out (by omega), fun h => HM3.out (by have := HNE.out; omega), upto_step HU.out HGO.out HV.out, rfl⟩
        · have HV := Lib.hid (show fltZ z rules i = 8 from by
            have q1 := HX.out
            have q3 := hm3 (by omega)
            unfold fltZ
            simp only [← q1, ← q3]
            subst hi0
            simp <;> omega)
          have gm : (i : Int) < 4 + m := by omega
          have f2 : decide ((3 : Int) < (i : Int)) = true := by simp; omega
          have f3 : decide (4 + m ≤ (i : Int)) = false := by simp; omega
          have x1 : (x == 1) = false := by simp <;> omega
          have x2 : (x == 2) = false := by simp <;> omega
          have x3 : (x == 3) = true := by simp <;> omega
          have x4 : (x == 4) = false := by simp <;> omega
          have m2 : (m == 2) = false := by simp <;> omega
          clear hm0 hm3 hgo hin hi0
          go_wp2
          rw [five_set BK.out]
          refine bodyPost_ret (results_cell2 rfl _ _ b0 _ _ (0, 0) _ rfl (setObj_at (lt_of_block BK.out) _) Try.underlying41 rfl (by kernel_rfl)) rfl ⟨?_, ?_⟩
          · rw [parse_fault i (by rw [HL.out]; exact HIN.out) (upto_clean HU.out HGO.out) (by rw [HV.out]; decide), HV.out]; rfl
          · exact BL.out.trans ((Fr.setObj (F := fun k => k = b0) (Fr.refl _ _) rfl _).below BL.out.size (fun k hk => by have := HB0.out; omega))
        · have HV := Lib.hid (show fltZ z rules i = 8 from by
            have q1 := HX.out
            have q3 := hm3 (by omega)
            unfold fltZ
            simp only [← q1, ← q3]
            subst hi0
            simp <;> omega)
          have gm : (i : Int) < 4 + m := by omega
          have f2 : decide ((3 : Int) < (i : Int)) = true := by simp; omega
          have f3 : decide (4 + m ≤ (i : Int)) = false := by simp; omega
          have x1 : (x == 1) = false := by simp <;> omega
          have x2 : (x == 2) = false := by simp <;> omega
          have x3 : (x == 3) = false := by simp <;> omega
          have x4 : (x == 4) = true := by simp <;> omega
          have m3 : (m == 3) = false := by simp <;> omega
          clear hm0 hm3 hgo hin hi0
          go_wp2
          rw [five_set BK.out]
          refine bodyPost_ret (results_cell2 rfl _ _ b0 _ _ (0, 0) _ rfl (setObj_at (lt_of_block BK.out) _) Try.underlying41 rfl (by kernel_rfl)) rfl ⟨?_, ?_⟩
          · rw [parse_fault i (by rw [HL.out]; exact HIN.out) (upto_clean HU.out HGO.out) (by rw [HV.out]; decide), HV.out]; rfl
          · exact BL.out.trans ((Fr.setObj (F := fun k => k = b0) (Fr.refl _ _) rfl _).below BL.out.size (fun k hk => by have := HB0.out; omega))
        · have HV := Lib.hid (show fltZ z rules i = 8 from by
            have q1 := HX.out
            have q3 := hm3 (by omega)
            unfold fltZ
            simp only [← q1, ← q3]
            subst hi0
            simp <;> omega)
          have gm : (i : Int) < 4 + m := by omega
          have f2 : decide ((3 : Int) < (i : Int)) = true := by simp; omega
          have f3 : decide (4 + m ≤ (i : Int)) = false := by simp; omega
          have x1 : (x == 1) = true := by simp <;> omega
          have x2 : (x == 2) = false := by simp <;> omega
          have x3 : (x == 3) = false := by simp <;> omega
          have x4 : (x == 4) = false := by simp <;> omega
          have m7 : decide (7 ≤ m) = false := by simp; omega
          clear hm0 hm3 hgo hin hi0
          go_wp2
          rw [five_set BK.out]
          refine bodyPost_ret (results_cell2 rfl _ _ b0 _ _ (0, 0) _ rfl (setObj_at (lt_of_block BK.out) _) Try.underlying41 rfl (by kernel_rfl)) rfl ⟨?_, ?_⟩
          · rw [parse_fault i (by rw [HL.out]; exact HIN.out) (upto_clean HU.out HGO.out) (by rw [HV.out]; decide), HV.out]; rfl
          · exact BL.out.trans ((Fr.setObj (F := fun k => k = b0) (Fr.refl _ _) rfl _).below BL.out.size (fun k hk => by have := HB0.out; omega))
        · have HV := Lib.hid (show fltZ z rules i = 8 from by
            have q1 := HX.out
            have q3 := hm3 (by omega)
            unfold fltZ
            simp only [← q1, ← q3]
            subst hi0
            simp <;> omega)
          have gm : (i : Int) < 4 + m := by omega
          have f2 : decide ((3 : Int) < (i : Int)) = true := by simp; omega
          have f3 : decide (4 + m ≤ (i : Int)) = false := by simp; omega
          have x1 : (x == 1) = false := by simp <;> omega
          have x2 : (x == 2) = true := by simp <;> omega
          have x3 : (x == 3) = false := by simp <;> omega
          have x4 : (x == 4) = false := by simp <;> omega
          have m7 : decide (7 ≤ m) = false := by simp; omega
          clear hm0 hm3 hgo hin hi0
          go_wp2
          rw [five_set BK.out]
          refine bodyPost_ret (results_cell2 rfl _ _ b0 _ _ (0, 0) _ rfl (setObj_at (lt_of_block BK.out) _) Try.underlying41 rfl (by kernel_rfl)) rfl ⟨?_, ?_⟩
          · rw [parse_fault i (by rw [HL.out]; exact HIN.out) (upto_clean HU.out HGO.out) (by rw [HV.out]; decide), HV.out]; rfl
          · exact BL.out.trans ((Fr.setObj (F := fun k => k = b0) (Fr.refl _ _) rfl _).below BL.out.size (fun k hk => by have := HB0.out; omega))
        · have HV := Lib.hid (show fltZ z rules i = 8 from by
            have q1 := HX.out
            have q3 := hm3 (by omega)
            unfold fltZ
            simp only [← q1, ← q3]
            subst hi0
            simp <;> omega)
          have gm : (i : Int) < 4 + m := by omega
          have f2 : decide ((3 : Int) < (i : Int)) = true := by simp; omega
          have f3 : decide (4 + m ≤ (i : Int)) = false := by simp; omega
          have x1 : (x == 1) = false := by simp <;> omega
          have x2 : (x == 2) = false := by simp <;> omega
          have x3 : (x == 3) = false := by simp <;> omega
          have x4 : (x == 4) = false := by simp <;> omega
          clear hm0 hm3 hgo hin hi0
          go_wp2
          rw [five_set BK.out]
          refine bodyPost_ret (results_cell2 rfl _ _ b0 _ _ (0, 0) _ rfl (setObj_at (lt_of_block BK.out) _) Try.underlying41 rfl (by kernel_rfl)) rfl ⟨?_, ?_⟩
          · rw [parse_fault i (by rw [HL.out]; exact HIN.out) (upto_clean HU.out HGO.out) (by rw [HV.out]; decide), HV.out]; rfl
          · exact BL.out.trans ((Fr.setObj (F := fun k => k = b0) (Fr.refl _ _) rfl _).below BL.out.size (fun k hk => by have := HB0.out; omega))
      by_cases hi0 : i = 5
      · have e0 : ((i : Int) == 0) = false := by simp; omega
        have e1 : ((i : Int) == 1) = false := by simp; omega
        have e2 : ((i : Int) == 2) = false := by simp; omega
        have e3 : ((i : Int) == 3) = false := by simp; omega
        have e4 : ((i : Int) == 4) = false := by simp; omega
        have e5 : ((i : Int) == 5) = true := by rw [hi0]; rfl
        have e10 : ((i : Int) == 10) = false := by simp; omega
        have f1 : decide ((3 : Int) < (i : Int)) = true := by simp; omega
        have hways : (x < rules) ∨ (rules ≤ x) := by omega
        rcases hways with hw | hw
        · have HV := Lib.hid (show fltZ z rules i = 0 from by
            have q1 := HX.out
            unfold fltZ
            simp only [← q1]
            subst hi0
            simp <;> omega)
          have gm : (i : Int) < 4 + m := by omega
          have f2 : decide ((3 : Int) < (i : Int)) = true := by simp; omega
          have f3 : decide (4 + m ≤ (i : Int)) = false := by simp; omega
          have t1 : decide (rules ≤ x) = false := by simp; omega
          have HNE := Lib.hid (show i ≠ 3 from by omega)
          clear hm0 hm3 hgo hin hi0
          go_wp2
          go_roundg (n - (i + 1))
          case measure => have := HK.out; have := HIN.out; omega
          case rel => exact ⟨i + 1, m, by have := HIN.out; omega, by omega, by go_num, rfl, fun h => HM0.out (by omega), fun h => HM3.out (by have := HNE.out; omega), upto_step HU.out HGO.out HV.out, rfl⟩
        · have HV := Lib.hid (show fltZ z rules i = 9 from by
            have q1 := HX.out
            unfold fltZ
            simp only [← q1]
            subst hi0
            simp <;> omega)
          have gm : (i : Int) < 4 + m := by omega
          have f2 : decide ((3 : Int) < (i : Int)) = true := by simp; omega
          have f3 : decide (4 + m ≤ (i : Int)) = false := by simp; omega
          have t1 : decide (rules ≤ x) = true := by simp; omega
          clear hm0 hm3 hgo hin hi0
          go_wp2
          rw [five_set BK.out]
          refine bodyPost_ret (results_cell2 rfl _ _ b0 _ _ (0, 0) _ rfl (setObj_at (lt_of_block BK.out) _) Try.underlying41 rfl (by kernel_rfl)) rfl ⟨?_, ?_⟩
          · rw [parse_fault i (by rw [HL.out]; exact HIN.out) (upto_clean HU.out HGO.out) (by rw [HV.out]; decide), HV.out]; rfl
          · exact BL.out.trans ((Fr.setObj (F := fun k => k = b0) (Fr.refl _ _) rfl _).below BL.out.size (fun k hk => by have := HB0.out; omega))
      by_cases hi0 : i = 10
      · have e0 : ((i : Int) == 0) = false := by simp; omega
        have e1 : ((i : Int) == 1) = false := by simp; omega
        have e2 : ((i : Int) == 2) = false := by simp; omega
        have e3 : ((i : Int) == 3) = false := by simp; omega
        have e4 : ((i : Int) == 4) = false := by simp; omega
        have e5 : ((i : Int) == 5) = false := by simp; omega
        have e10 : ((i : Int) == 10) = true := by rw [hi0]; rfl
        have f1 : decide ((3 : Int) < (i : Int)) = true := by simp; omega
        have hways : (x = m - 7) ∨ (x ≠ m - 7) := by omega
        rcases hways with hw | hw
        · have HV := Lib.hid (show fltZ z rules i = 0 from by
            have q1 := HX.out
            have q3 := hm3 (by omega)
            unfold fltZ
            simp only [← q1, ← q3]
            subst hi0
            simp <;> omega)
          have gm : (i : Int) < 4 + m := by omega
          have f2 : decide ((3 : Int) < (i : Int)) = true := by simp; omega
          have f3 : decide (4 + m ≤ (i : Int)) = false := by simp; omega
          have t1 : (x != m - 7) = false := by simpa using hw
          have HNE := Lib.hid (show i ≠ 3 from by omega)
          clear hm0 hm3 hgo hin hi0
          go_wp2
          go_roundg (n - (i + 1))
          case measure => have := HK.out; have := HIN.out; omega
          case rel => exact ⟨i + 1, m, by have := HIN.out; omega, by omega, by go_num, rfl, fun h => HM0.out (by omega), fun h => HM3.out (by have := HNE.out; omega), upto_step HU.out HGO.out HV.out, rfl⟩
        · have HV := Lib.hid (show fltZ z rules i = 10 from by
            have q1 := HX.out
            have q3 := hm3 (by omega)
            unfold fltZ
            simp only [← q1, ← q3]
            subst hi0
            simp <;> omega)
          have gm : (i : Int) < 4 + m := by omega
          have f2 : decide ((3 : Int) < (i : Int)) = true := by simp; omega
          have f3 : decide (4 + m ≤ (i : Int)) = false := by simp; omega
          have t1 : (x != m - 7) = true := by simpa using hw
          clear hm0 hm3 hgo hin hi0
          go_wp2
          rw [five_set BK.out]
          refine bodyPost_ret (results_cell2 rfl _ _ b0 _ _ (0, 0) _ rfl (setObj_at (lt_of_block BK.out) _) Try.underlying41 rfl (by kernel_rfl)) rfl ⟨?_, ?_⟩
          · rw [parse_fault i (by rw [HL.out]; exact HIN.out) (upto_clean HU.out HGO.out) (by rw [HV.out]; decide), HV.out]; rfl
          · exact BL.out.trans ((Fr.setObj (F := fun k => k = b0) (Fr.refl _ _) rfl _).below BL.out.size (fun k hk => by have := HB0.out; omega))
      have e0 : ((i : Int) == 0) = false := by simp; omega
      have e1 : ((i : Int) == 1) = false := by simp; omega
      have e2 : ((i : Int) == 2) = false := by simp; omega
      have e3 : ((i : Int) == 3) = false := by simp; omega
      have e4 : ((i : Int) == 4) = false := by simp; omega
      have e5 : ((i : Int) == 5) = false := by simp; omega
      have e10 : ((i : Int) == 10) = false := by simp; omega
      have hways : (0 ≤ x) := by omega
      rcases hways with hw
      · have HV := Lib.hid (show fltZ z rules i = 0 from by
          have q1 := HX.out
          unfold fltZ
          simp only [← q1]
          simp <;> omega)
        have gm : (i : Int) < 4 + m := by omega
        have f2 : decide ((3 : Int) < (i : Int)) = true := by simp; omega
        have f3 : decide (4 + m ≤ (i : Int)) = false := by simp; omega
        have HNE := Lib.hid (show i ≠ 3 from by omega)
        clear hm0 hm3 hgo hin
        go_wp2
        go_roundg (n - (i + 1))
        case measure => have := HK.out; have := HIN.out; omega
        case rel => exact ⟨i + 1, m, by have := HIN.out; omega, by omega, by go_num, rfl, fun h => HM0.out (by omega), fun h => HM3.out (by have := HNE.out; omega), upto_step HU.out HGO.out HV.out, rfl⟩
    · have HCA : (i = n ∧ (i ≤ 3 ∨ (i : Int) < 4 + m)) ∨ ((i = n ∨ i < n) ∧ 3 < i ∧ 4 + m ≤ (i : Int)) := by omega
      clear hgo
      rcases HCA with ⟨rfl, hlo⟩ | ⟨hin, h3i, h4m⟩
      · have HCL := Lib.hid (show cleanZ z rules z.length from by
          rw [HL.out]
          refine upto_clean HU.out ?_
          rcases hlo with g | g
          · exact .inl g
          · by_cases g3 : i ≤ 3
            · exact .inl g3
            · rw [← hm3 (by omega)]; exact .inr g)
        have hlo' : (i < 4) ∨ (4 ≤ i ∧ (i : Int) < 4 + m) := by omega
        clear hlo hm0 hm3
        rcases hlo' with g | ⟨g, g'⟩
        · have t1 : decide ((i : Int) < 4) = true := by simp; omega
          have t2 : decide (i < 4) = true := by simpa using g
          clear g
          go_wp2
          rw [five_set BK.out]
          refine bodyPost_ret (results_cell2 rfl _ _ b0 _ _ (0, 0) _ rfl (setObj_at (lt_of_block BK.out) _) Try.underlying41 rfl (by kernel_rfl)) rfl ⟨?_, ?_⟩
          · rw [parse_all HCL.out]; rfl
          · exact BL.out.trans ((Fr.setObj (F := fun k => k = b0) (Fr.refl _ _) rfl _).below BL.out.size (fun k hk => by have := HB0.out; omega))
        · have t1 : decide ((i : Int) < 4) = false := by simp; omega
          have t2 : decide (i < 4) = false := by simpa using g
          have t3 : decide ((i : Int) < 4 + m) = true := by simpa using g'
          clear g
          go_wp2
          rw [five_set BK.out]
          refine bodyPost_ret (results_cell2 rfl _ _ b0 _ _ (0, 0) _ rfl (setObj_at (lt_of_block BK.out) _) Try.underlying41 rfl (by kernel_rfl)) rfl ⟨?_, ?_⟩
          · rw [parse_all HCL.out]; rfl
          · exact BL.out.trans ((Fr.setObj (F := fun k => k = b0) (Fr.refl _ _) rfl _).below BL.out.size (fun k hk => by have := HB0.out; omega))
      · have hm := hm3 h3i
        obtain ⟨ue, ucl, uf, uw⟩ := upto_end HU.out (byt_getD HBY.out 3).1 h3i (by rw [← hm]; exact h4m)
        have hil : i - 1 < z.length := by rw [HL.out]; omega
        have hww := whole_ways hil ucl uf uw
        have HPW := Lib.hid (show parseZ z rules = (reqZ z, 4 + m, 0) from by
          rw [parse_whole (i - 1) hil ucl uf uw]
          simp only [Prod.mk.injEq, and_true, true_and]
          omega)
        rw [HL.out, ← hm] at hww
        rw [← hm] at ue
        obtain ⟨hn6, hww⟩ := hww
        obtain ⟨d, off, rfl, HDL, hc⟩ := (HR.out.below BL.out).at_ (by omega)
        have c4 := hc 4 (by omega)
        have c5 := hc 5 (by omega)
        have b4 := byt_getD HBY.out 4
        have b5 := byt_getD HBY.out 5
        obtain ⟨op, hop⟩ : ∃ x, x = z.getD 4 0 := ⟨_, rfl⟩
        obtain ⟨ru, hru⟩ : ∃ x, x = z.getD 5 0 := ⟨_, rfl⟩
        rw [← hop] at c4 b4 hww
        rw [← hru] at c5 b5
        have HOP := Lib.hid hop
        have HRU := Lib.hid hru
        have HC := Lib.hid hc
        have HM := Lib.hid hm
        have HWW := Lib.hid hww
        have RZ := Lib.hid (HR.out.below BL.out)
        have g1 : (6 : Int) ≤ (n : Int) := by omega
        have g2 : (3 : Int) < (i : Int) := by omega
        have t1 : decide ((n : Int) < 4) = false := by simp; omega
        have t2 : decide (n < 4) = false := by simp; omega
        have t3 : decide ((n : Int) < 4 + m) = false := by simp; omega
        have t4 : decide ((4 : Int) + m ≤ (i : Int)) = true := by simpa using h4m
        have e1 : IntKind.i64.wrap op = op := by rw [IntKind.wrap_i64]; omega
        have e2 : IntKind.i64.wrap ru = ru := by rw [IntKind.wrap_i64]; omega
        have gmn : 4 + m ≤ (n : Int) := by omega
        have g3 : (4 : Int) < (n : Int) := by omega
        have g5 : (5 : Int) < (n : Int) := by omega
        have HII := Lib.hid hin
        clear hop hru hc hm hww hm0 hm3 ue ucl uf uw hil hin
        rcases HII.out with hin | hin
        all_goals
          first | (have hX : decide ((i : Int) < (n : Int)) = false := (by rw [hin]; simp); have hY : decide (i < n) = false := (by rw [hin]; simp); clear hin) | (have hX : (i : Int) < (n : Int) := (by omega); have ci := HC.out i hin)
          go_upto_region 23 with (fail)
          go_region_held3 (fun w' => w'.cell? ⟨d, off + 4, none⟩ = some (.int .u8 op) ∧ w'.cell? ⟨d, off + 5, none⟩ = some (.int .u8 ru)) (first | assumption | exact ⟨c4, c5⟩ | (constructor <;> go_simp)) (fail)
          obtain ⟨w4, hw4, hb4, hbl4, hsz4⟩ := box_new wr (reqC op ru 0 ⟨#[]⟩ 0) 41
          change Exit.then _ _ _ _ (wr.alloc (.cells (reqC op ru 0 ⟨#[]⟩ 0) 41)).drew
          rw [hw4]
          obtain ⟨w5, hw5⟩ : ∃ w5, w5 = w4.drew := ⟨_, rfl⟩
          have hb5 : Blk w5 wr.heap.size 41 (reqC op ru 0 ⟨#[]⟩ 0) := by rw [hw5]; exact hb4
          have hbl5 : Below wr.heap.size wr w5 := by rw [hw5]; exact below_draws hbl4 1
          rw [← hw5]
          obtain ⟨bq, hbq⟩ : ∃ bq, bq = wr.heap.size := ⟨_, rfl⟩
          rw [← hbq] at hb5 ⊢
          have BQ := Lib.hid hb5
          have BK5 := Lib.hid (BK.out.keep hbl5)
          have BL5 := Lib.hid (BL.out.trans (hbl5.mono BL.out.size))
          have R5 := Lib.hid (HR.out.below BL5.out)
          have NE1 := Lib.hid (show b0 < bq from by have := S1.out; omega)
          clear hw5 hb5 hbl5 hbq k0 k1 hw4 hb4 hbl4 hsz4
          have k5 := BQ.out.rd
          have q5 := BQ.out.wr
          rcases HWW.out with ⟨h1, h2⟩ | ⟨h1, h2, h3⟩ | ⟨h1, h2, h3, h4⟩
          · subst h1
            subst h2
            have k0 := BK5.out.rd
            have q0 := BK5.out.wr
            go_wp2
            rw [five_set BK5.out]
            refine bodyPost_ret (results_cell2 rfl _ _ b0 _ _ (0, 0) _ rfl (setObj_at (lt_of_block BK5.out) _) Try.underlying41 rfl (by kernel_rfl)) rfl ⟨?_, ?_⟩
            · rw [HPW.out, reqZ3 HM.out.symm, ← HOP.out, ← HRU.out]; rfl
            · exact BL5.out.trans ((Fr.setObj (F := fun k => k = b0) (Fr.refl _ _) rfl _).below BL5.out.size (fun k hk => by have := HB0.out; omega))
          · subst h1
            subst h2
            have b6 := byt_getD HBY.out 6
            obtain ⟨kk, hkk⟩ : ∃ x, x = z.getD 6 0 := ⟨_, rfl⟩
            rw [← hkk] at b6
            have HK6 := Lib.hid hkk
            have e3 : IntKind.i64.wrap kk = kk := by rw [IntKind.wrap_i64]; omega
            obtain ⟨_, _, e6, _, hc6⟩ := R5.out.at_ (by omega)
            injection e6 with e6; injection e6 with e61 e62
            subst e61 e62
            have c6 := hc6 6 (by omega)
            rw [← hkk] at c6
            have g6 : (6 : Int) < (n : Int) := by omega
            clear hkk hc6 c4 c5
            go_upto_region 29 with (fail)
            have BK7 := Lib.hid (blk_set (i := 4) (v := .int .i64 kk) BK5.out BQ.out (by have := NE1.out; omega))
            have BQ7 := Lib.hid (show Blk (w5.setCell ⟨bq, 4, none⟩ (.int .i64 kk)) bq 41 (reqC 4 ru 0 ⟨#[]⟩ kk) from by rw [setCell_obj BQ.out]; exact setObj_at (lt_of_block BQ.out) _)
            have BL7 := Lib.hid (BL5.out.trans ((fr_set (i := 4) (v := .int .i64 kk) BQ.out).below BL5.out.size (fun k hk => by have := HB0.out; have := NE1.out; omega)))
            obtain ⟨w7, hw7⟩ : ∃ w7, w7 = w5.setCell ⟨bq, 4, none⟩ (.int .i64 kk) := ⟨_, rfl⟩
            rw [← hw7] at BK7 BQ7 BL7 ⊢
            clear k5 q5 hw7
            have k7 := BQ7.out.rd
            have k8 := BK7.out.rd
            have k9 := BK7.out.wr
            go_wp2
            rw [five_set BK7.out]
            refine bodyPost_ret (results_cell2 rfl _ _ b0 _ _ (0, 0) _ rfl (setObj_at (lt_of_block BK7.out) _) Try.underlying41 rfl (by kernel_rfl)) rfl ⟨?_, ?_⟩
            · rw [HPW.out, reqZ4 HM.out.symm, ← HOP.out, ← HRU.out, ← HK6.out]; rfl
            · exact BL7.out.trans ((Fr.setObj (F := fun k => k = b0) (Fr.refl _ _) rfl _).below BL7.out.size (fun k hk => by have := HB0.out; omega))
          · obtain ⟨_, _, e6, _, hc6⟩ := R5.out.at_ (by omega)
            injection e6 with e6; injection e6 with e61 e62
            subst e61 e62
            have c6 := hc6 6 (by omega)
            have c7 := hc6 7 (by omega)
            have c8 := hc6 8 (by omega)
            have c9 := hc6 9 (by omega)
            obtain ⟨x6, h6⟩ : ∃ x, x = z.getD 6 0 := ⟨_, rfl⟩
            obtain ⟨x7, h7⟩ : ∃ x, x = z.getD 7 0 := ⟨_, rfl⟩
            obtain ⟨x8, h8⟩ : ∃ x, x = z.getD 8 0 := ⟨_, rfl⟩
            obtain ⟨x9, h9⟩ : ∃ x, x = z.getD 9 0 := ⟨_, rfl⟩
            have b6 := byt_getD HBY.out 6
            have b7 := byt_getD HBY.out 7
            have b8 := byt_getD HBY.out 8
            have b9 := byt_getD HBY.out 9
            rw [← h6] at c6 b6
            rw [← h7] at c7 b7
            rw [← h8] at c8 b8
            rw [← h9] at c9 b9
            have H69 := Lib.hid (And.intro h6 (And.intro h7 (And.intro h8 h9)))
            have e6 : IntKind.u32.wrap x6 = x6 := by rw [IntKind.wrap_u32]; omega
            have e7 : IntKind.u32.wrap x7 = x7 := by rw [IntKind.wrap_u32]; omega
            have e8 : IntKind.u32.wrap x8 = x8 := by rw [IntKind.wrap_u32]; omega
            have e9 : IntKind.u32.wrap x9 = x9 := by rw [IntKind.wrap_u32]; omega
            have g6 : (6 : Int) < (n : Int) := by omega
            have g7 : (7 : Int) < (n : Int) := by omega
            have g8 : (8 : Int) < (n : Int) := by omega
            have g9 : (9 : Int) < (n : Int) := by omega
            have gm7 : 7 ≤ m := h2
            have t7 : decide (7 ≤ m) = true := by simpa using h2
            clear h6 h7 h8 h9 hc6 c4 c5 h1 h2 h3 h4
            go_upto_region 25 with (fail)
            go_still_tail 23, (by kernel_rfl)
            change wpList _ _ _ _ _ w5.drew
            go_upto_region 26 with (fail)
            obtain ⟨cost, hcost⟩ : ∃ x, x = x6 * 16777216 + x7 * 65536 + x8 * 256 + x9 := ⟨_, rfl⟩
            have HC := Lib.hid (show cost = preZ (z.drop 6) 4 from by
              obtain ⟨q1, q2, q3, q4⟩ := H69.out
              simp only [preZ, getD_drop, Nat.add_zero]
              rw [← q1, ← q2, ← q3, ← q4, hcost]
              omega)
            rw [← hcost]
            have BK7 := Lib.hid (show Blk (w5.setCell ⟨bq, 2, none⟩ (.int .u32 cost)).drew b0 41 (reqC 0 0 0 ⟨#[]⟩ 0) from blk_set (i := 2) (v := .int .u32 cost) BK5.out BQ.out (by have := NE1.out; omega))
            have BQ7 := Lib.hid (show Blk (w5.setCell ⟨bq, 2, none⟩ (.int .u32 cost)).drew bq 41 (reqC op ru cost ⟨#[]⟩ 0) from by
              have : Blk (w5.setCell ⟨bq, 2, none⟩ (.int .u32 cost)) bq 41 (reqC op ru cost ⟨#[]⟩ 0) := by rw [setCell_obj BQ.out]; exact setObj_at (lt_of_block BQ.out) _
              exact this)
            have BL7 := Lib.hid (show Below w.heap.size w (w5.setCell ⟨bq, 2, none⟩ (.int .u32 cost)).drew from below_draws (BL5.out.trans ((fr_set (i := 2) (v := .int .u32 cost) BQ.out).below BL5.out.size (fun k hk => by have := HB0.out; have := NE1.out; omega))) 1)
            obtain ⟨w7, hw7⟩ : ∃ w7, w7 = (w5.setCell ⟨bq, 2, none⟩ (.int .u32 cost)).drew := ⟨_, rfl⟩
            rw [← hw7] at BK7 BQ7 BL7 ⊢
            have RZ7 := HR.out.below BL7.out
            obtain ⟨sz, hsz⟩ : ∃ sz : Nat, m = 7 + (sz : Int) := ⟨(m - 7).toNat, by omega⟩
            have HSZ := Lib.hid hsz
            have HMO := Lib.hid (show m = z.getD 3 0 from HM.out)
            obtain ⟨key, hkey⟩ : ∃ key, key = strOfNums ((z.take (11 + sz)).drop 11) := ⟨_, rfl⟩
            have HKEY := Lib.hid hkey
            have hn11 : 11 + sz ≤ n := by omega
            clear k5 q5 hw7 hcost c6 c7 c8 c9
            have k7 := BQ7.out.rd
            have q7 := BQ7.out.wr
            have es : 4 + m = ((11 + sz : Nat) : Int) := by omega
            have HES := Lib.hid es
            have t9 : (m == 3) = false := by simp; omega
            have gz1 : ((11 + sz : Nat) : Int) ≤ (c : Int) := by omega
            have gz2 : (11 : Int) ≤ ((11 + sz : Nat) : Int) := by omega
            have ez : 11 + sz - 11 = sz := by omega
            clear hsz t3 t4 gmn
            by_cases hc11 : c = 11
            · have hs0 : sz = 0 := by omega
              try (exfalso; omega)
              all_goals
                have hcv : (convert 27 9 (.slice (some ⟨d, off, none⟩) 0 0)).run Try.prog w7 = .ok (.string key) w7 := by
                  rw [conv_str (by rfl) (by rfl) (by rfl) (rdI_none (w := w7) (k := .u8) (A := some ⟨d, off, none⟩) (c := 0) (by unfold maxLen; omega)), hkey, hs0]
                  congr 3
                  rw [List.drop_eq_nil_of_le (by rw [List.length_take]; omega)]
                have es0 : 4 + m = 11 := by omega
                have HES := Lib.hid es0
                subst hc11
                clear es gz1 gz2 ez hs0
                clear RZ7 hkey
                go_upto_region 29 with (fail)
                have BK9 := Lib.hid (blk_set (i := 3) (v := .string key) BK7.out BQ7.out (by have := NE1.out; omega))
                have BQ9 := Lib.hid (show Blk (w7.setCell ⟨bq, 3, none⟩ (.string key)) bq 41 (reqC op ru cost key 0) from by rw [setCell_obj BQ7.out]; exact setObj_at (lt_of_block BQ7.out) _)
                have BL9 := Lib.hid (BL7.out.trans ((fr_set (i := 3) (v := .string key) BQ7.out).below BL7.out.size (fun k hk => by have := HB0.out; have := NE1.out; omega)))
                obtain ⟨w9, hw9⟩ : ∃ w9, w9 = w7.setCell ⟨bq, 3, none⟩ (.string key) := ⟨_, rfl⟩
                rw [← hw9] at BK9 BQ9 BL9 ⊢
                clear k7 q7 hw9 hcv
                have k9 := BQ9.out.rd
                have k10 := BK9.out.rd
                have k11 := BK9.out.wr
                go_wp2
                rw [five_set BK9.out]
                refine bodyPost_ret (results_cell2 rfl _ _ b0 _ _ (0, 0) _ rfl (setObj_at (lt_of_block BK9.out) _) Try.underlying41 rfl (by kernel_rfl)) rfl ⟨?_, ?_⟩
                · rw [HPW.out, reqZ7 (by rw [← HMO.out]; exact gm7), ← HOP.out, ← HRU.out, ← HC.out, HES.out, ← HMO.out, HKEY.out]
                  have e8 : 4 + m.toNat = 11 + sz := by have := HSZ.out; omega
                  rw [e8]
                  rfl
                · exact BL9.out.trans ((Fr.setObj (F := fun k => k = b0) (Fr.refl _ _) rfl _).below BL9.out.size (fun k hk => by have := HB0.out; omega))
            · have hcv : (convert 27 9 (.slice (some ⟨d, off + 11, none⟩) sz (c - 11))).run Try.prog w7 = .ok (.string key) w7 := by
                have r1 := rdI_end RZ7 (m := 11) (by omega)
                have r2 : RdI w7 .u8 (some ⟨d, off + 11, none⟩) sz (c - 11) ((z.take (11 + sz)).drop 11) := by
                  refine ⟨by rw [List.length_drop, List.length_take, HL.out]; omega, by omega, by have := r1.max; omega, fun h0 => ?_, fun x hx => HR.out.wf x (List.mem_of_mem_take (List.mem_of_mem_drop hx))⟩
                  obtain ⟨b', off', e, hlt, hcs⟩ := r1.at_ (by omega)
                  refine ⟨b', off', e, hlt, fun i hi => ?_⟩
                  rw [hcs i (by omega)]
                  simp [List.getD, List.getElem?_take, show 11 + i < 11 + sz by omega]
                rw [conv_str (by rfl) (by rfl) (by rfl) r2, hkey]
              clear RZ7 hkey
              go_upto_region 29 with (fail)
              have BK9 := Lib.hid (blk_set (i := 3) (v := .string key) BK7.out BQ7.out (by have := NE1.out; omega))
              have BQ9 := Lib.hid (show Blk (w7.setCell ⟨bq, 3, none⟩ (.string key)) bq 41 (reqC op ru cost key 0) from by rw [setCell_obj BQ7.out]; exact setObj_at (lt_of_block BQ7.out) _)
              have BL9 := Lib.hid (BL7.out.trans ((fr_set (i := 3) (v := .string key) BQ7.out).below BL7.out.size (fun k hk => by have := HB0.out; have := NE1.out; omega)))
              obtain ⟨w9, hw9⟩ : ∃ w9, w9 = w7.setCell ⟨bq, 3, none⟩ (.string key) := ⟨_, rfl⟩
              rw [← hw9] at BK9 BQ9 BL9 ⊢
              clear k7 q7 hw9 hcv
              have k9 := BQ9.out.rd
              have k10 := BK9.out.rd
              have k11 := BK9.out.wr
              go_wp2
              rw [five_set BK9.out]
              refine bodyPost_ret (results_cell2 rfl _ _ b0 _ _ (0, 0) _ rfl (setObj_at (lt_of_block BK9.out) _) Try.underlying41 rfl (by kernel_rfl)) rfl ⟨?_, ?_⟩
              · rw [HPW.out, reqZ7 (by rw [← HMO.out]; exact gm7), ← HOP.out, ← HRU.out, ← HC.out, HES.out, ← HMO.out, HKEY.out]
                have e8 : 4 + m.toNat = 11 + sz := by have := HSZ.out; omega
                rw [e8]
                rfl
              · exact BL9.out.trans ((Fr.setObj (F := fun k => k = b0) (Fr.refl _ _) rfl _).below BL9.out.size (fun k hk => by have := HB0.out; omega))
end Go.Proofs.Ytaghookljjpllaa
