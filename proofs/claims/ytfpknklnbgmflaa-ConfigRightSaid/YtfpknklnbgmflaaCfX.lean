/- The laws of layer 17 (config), walked: may a configuration be. -/
import Derived.Test.YtfpknklnbgmflaaCfK
import Derived.Test.YtfpknklnbgmflaaCfL
import Derived.Test.YtfpknklnbgmflaaConf
import Derived.Laws.Cover1
namespace Go.Proofs.Ytfpknklnbgmflaa
open Go.ChangeShapes Go.WideShapes Go.ChangeAt Go.RowKit
open Ar (inR)
def lawM (l : List RuZ) : Int := l.foldl (fun m r => mx (mx m 46) (7 + 81 * r.Tr)) 0
theorem lawM_take {l : List RuZ} {i : Nat} (h : i < l.length) : lawM (l.take (i + 1)) = mx (mx (lawM (l.take i)) 46) (7 + 81 * (l[i]).Tr) := by
  unfold lawM
  rw [List.take_succ_eq_append_getElem h, List.foldl_append]
  rfl
theorem fold_same : ∀ (l : List RuZ) (m : Int), 46 ≤ m → l.foldl (fun m r => mx (mx m 46) (7 + 81 * r.Tr)) m = l.foldl (fun m r => stepM m r.Tr 3) m
  | [], _, _ => rfl
  | a :: l, m, h => by
    have e : mx (mx m 46) (7 + 81 * a.Tr) = stepM m a.Tr 3 := by
      show _ = mx (mx (mx m 22) 46) (7 + 81 * a.Tr)
      rw [show mx m 22 = m from by unfold mx; rw [if_neg (by omega)]]
    rw [List.foldl_cons, List.foldl_cons, e]
    exact fold_same l _ (by rw [← e]; unfold mx; repeat' split
                            all_goals omega)
theorem lawM_eq {l : List RuZ} (h : 0 < l.length) : lawM l = mostZ l := by
  match l, h with
  | a :: l, _ =>
    unfold lawM mostZ
    rw [List.foldl_cons, List.foldl_cons]
    have e : mx (mx 0 46) (7 + 81 * a.Tr) = stepM 6 a.Tr 3 := by
      show _ = mx (mx (mx 6 22) 46) (7 + 81 * a.Tr)
      rfl
    rw [e]
    exact fold_same l _ (by rw [← e]; unfold mx; repeat' split
                            all_goals omega)
set_option maxHeartbeats 8000000 in
set_option maxRecDepth 100000 in
theorem cright_law (w : World) (Bu Co Ou : Int) (A : Option Addr) (n c : Nat) (rs : List RuZ) (hb3 : i64In Bu ∧ i64In Co ∧ i64In Ou) (hr : RdRu w A n c rs) :
    Calls Try.prog 4 #[.agg #[.int .i64 Bu, .int .i64 Co, .int .i64 Ou, .slice A n c]] w fun e w' => e = .returned (.bool true) ∧ Below w.heap.size w w' := by
  have hcp := hr.cap
  have hmx := hr.max
  unfold maxLen at hmx
  have HR := Lib.hid hr
  have hlen := hr.len
  clear hr hb3
  obtain ⟨v, hv⟩ : ∃ v : Bool, v = true ↔ rightZ Bu Co Ou rs := by
    by_cases h : rightZ Bu Co Ou rs
    · exact ⟨true, fun _ => h, fun _ => rfl⟩
    · exact ⟨false, fun e => absurd e (by simp), fun e => absurd e h⟩
  have HV := Lib.hid hv
  clear hv
  go_enter Try.func4, Try.ntmps4
  go_upto_region 1 with (fail)
  obtain ⟨w1, hw1, hbk, hbl, hsz⟩ := box_new w (#[.int .i64 Bu, .int .i64 Co, .int .i64 Ou, .slice A n c]) 29
  change Code.wp _ _ _ _ (w.alloc (.cells (#[.int .i64 Bu, .int .i64 Co, .int .i64 Ou, .slice A n c]) 29))
  rw [hw1]
  obtain ⟨b1, hb1⟩ : ∃ b1, b1 = w.heap.size := ⟨_, rfl⟩
  rw [← hb1] at hbk ⊢
  have BK1 := Lib.hid hbk
  have BL1 := Lib.hid hbl
  clear hbk hbl hsz hw1
  have HB1 := Lib.hid hb1
  clear hb1
  by_cases hn : (100 : Int) < (n : Int)
  · have dn : decide ((100 : Int) < (n : Int)) = true := decide_eq_true hn
    clear hlen
    go_wp2_with (go_at_call 9; ((with_reducible refine (fit_any _).mono ?_); rintro e w2 ⟨rfl, b2⟩; have BL2 := Lib.hid (BL1.out.trans (b2.mono BL1.out.size)); have k2 := (BK1.out.keep b2).rd; clear b2))
    go_ret
    exact ⟨rfl, BL2.out⟩
  have dn : decide ((100 : Int) < (n : Int)) = false := decide_eq_false hn
  go_upto_region 5 with (go_at_call 9; ((with_reducible refine (fit_any _).mono ?_); rintro e w2 ⟨rfl, b2⟩; have BL2 := Lib.hid (BL1.out.trans (b2.mono BL1.out.size)); have BK2 := Lib.hid (BK1.out.keep b2); have k2 := BK2.out.rd; clear b2))
  have HR2 := Lib.hid (HR.out.below BL2.out)
  have y1 : ∀ k, w2.drew.cell? ⟨b1, k, none⟩ = (#[.int .i64 Bu, .int .i64 Co, .int .i64 Ou, .slice A n c] : Array Value)[k]? := (Blk.drew BK2.out).rd
  have y3 : Below w2.heap.size w2 w2.drew := below_draws (Below.refl _ _) 1
  have sv : (v != v) = false := by cases v <;> rfl
  have G1 := Lib.hid (fun (wx : World) (hx : Below w2.heap.size w2 wx) => show Calls Try.prog 14 #[.agg #[.int .i64 Bu, .int .i64 Co, .int .i64 Ou, .slice A n c]] wx (fun e w' => e = .returned (.bool v) ∧ (∀ k, w'.cell? ⟨b1, k, none⟩ = (#[.int .i64 Bu, .int .i64 Co, .int .i64 Ou, .slice A n c] : Array Value)[k]?) ∧ Below w2.heap.size w2 w') from (right_any Bu Co Ou A n c rs v HV.out wx (HR2.out.below hx)).mono (fun e w' hh => ⟨hh.1, (BK2.out.keep (hx.trans (hh.2.mono hx.size))).rd, hx.trans (hh.2.mono hx.size)⟩))
  have G2 := Lib.hid (fun (wx : World) (hx : Below w2.heap.size w2 wx) => show Calls Try.prog 15 #[.agg #[.int .i64 Bu, .int .i64 Co, .int .i64 Ou, .slice A n c]] wx (fun e w' => e = .returned (.bool v) ∧ (∀ k, w'.cell? ⟨b1, k, none⟩ = (#[.int .i64 Bu, .int .i64 Co, .int .i64 Ou, .slice A n c] : Array Value)[k]?) ∧ Below w2.heap.size w2 w') from (lright_any Bu Co Ou A n c rs v HV.out wx (HR2.out.below hx)).mono (fun e w' hh => ⟨hh.1, (BK2.out.keep (hx.trans (hh.2.mono hx.size))).rd, hx.trans (hh.2.mono hx.size)⟩))
  clear k2
  go_region_held3 (fun w' => (∀ k, w'.cell? ⟨b1, k, none⟩ = (#[.int .i64 Bu, .int .i64 Co, .int .i64 Ou, .slice A n c] : Array Value)[k]?) ∧ Below w2.heap.size w2 w') (first | (refine ⟨?_, ?_⟩ <;> assumption) | go_keep)
    (first
      | (go_at_call 14; ((with_reducible refine (G1.out _ (by assumption)).mono ?_); rintro e w4 ⟨rfl, z1, z3⟩))
      | (go_at_call 15; ((with_reducible refine (G2.out _ (by assumption)).mono ?_); rintro e w4 ⟨rfl, z1, z3⟩)))
  have BK3 := Lib.hid (BK2.out.keep z3)
  have BL3 := Lib.hid (BL2.out.trans (z3.mono BL2.out.size))
  have CR := Lib.hid (fun wx (hx : Below w2.heap.size w2 wx) => lright_any Bu Co Ou A n c rs v HV.out wx (HR2.out.below hx))
  have Z3 := Lib.hid z3
  clear y1 y3 z3 G1 G2
  have k3 := BK3.out.rd
  cases v
  · go_wp2_with (go_at_call 15; ((with_reducible refine (CR.out _ Z3.out).mono ?_); rintro e w5 ⟨rfl, b5⟩; have BL5 := Lib.hid (BL3.out.trans (b5.mono BL3.out.size)); clear b5))
    go_ret
    exact ⟨rfl, BL5.out⟩
  · have rz := HV.out.1 rfl
    obtain ⟨hC, hN, hB, hall, hM, hO, hF⟩ := rz
    have HALL := Lib.hid hall
    obtain ⟨P, hP⟩ : ∃ P, Co * Ou = P := ⟨_, rfl⟩
    have hmb := most_bd rs 6 (by omega) hall
    change 6 ≤ mostZ rs ∧ mostZ rs ≤ 5191 at hmb
    have hO46 : 46 ≤ Ou := ((most_le (by omega) Ou).1 hM).1
    have hPb : 46 ≤ P ∧ P ≤ 1048576 := by
      rw [← hP]
      exact ⟨by have := Int.mul_le_mul hC.1 hO46 (by omega) (by omega); omega, by have := Int.mul_le_mul hC.2 hO (by omega) (by omega); omega⟩
    have hPw : IntKind.i64.wrap (Co * Ou) = P := by rw [hP, IntKind.wrap_i64]; omega
    have hPw2 : wrap64 (Co * Ou) = P := by rw [hP]; unfold wrap64; omega
    have hsb := sumB_bd rs hall
    obtain ⟨F, hFe⟩ : ∃ F, P + sumB rs = F := ⟨_, rfl⟩
    rw [hP, hFe] at hF
    have hFb : 46 ≤ F ∧ F ≤ Bu := by omega
    have HFE := Lib.hid hFe
    have HPP := Lib.hid hP
    obtain ⟨M, hMe⟩ : ∃ M, mostZ rs = M := ⟨_, rfl⟩
    have HME := Lib.hid hMe
    rw [hMe] at hmb hM
    have HLM := Lib.hid (show lawM rs = M from by rw [lawM_eq (by omega), hMe])
    have hn8 : n ≤ 8 := by omega
    clear hall hP hFe hMe hsb HV
    go_upto_region 12 with (go_at_call 15; ((with_reducible refine (CR.out _ Z3.out).mono ?_); rintro e w5 ⟨rfl, b5⟩; have BL5 := Lib.hid (BL3.out.trans (b5.mono BL3.out.size)); have BK5 := Lib.hid (BK3.out.keep b5); have k5 := BK5.out.rd; clear b5))
    have CM := Lib.hid (fun wx (hx : Below w5.heap.size w5 wx) => most_any Bu Co Ou A n c rs wx (HR.out.below (BL5.out.trans (hx.mono BL5.out.size))) HALL.out)
    rw [HME.out] at CM
    have CFt := Lib.hid (fun wx (hx : Below w5.heap.size w5 wx) => foot_any Bu Co Ou A n c rs wx (HR.out.below (BL5.out.trans (hx.mono BL5.out.size))) hn8 HALL.out hC (by omega))
    rw [HPP.out, HFE.out] at CFt
    have HR5 := Lib.hid (HR.out.below BL5.out)
    clear k5 k3 hPw hPw2
    go_loopg [3, 4, 30] n (fun k s3 s4 s30 wr => ∃ i : Nat, i ≤ n ∧ k = n - i ∧ s3 = .int .i64 (lawM (rs.take i)) ∧ s4 = .int .i64 (P + sumB (rs.take i)) ∧ s30 = .int .i64 (i : Int) ∧ Hid (0 ≤ lawM (rs.take i) ∧ lawM (rs.take i) ≤ 5191) ∧ Below w5.heap.size w5 wr)
    case atStart => exact ⟨0, by omega, by omega, by simp [lawM], by simp [sumB], rfl, Lib.hid (by simp [lawM]), Below.refl _ _⟩
    case round =>
      obtain ⟨i, hi, hkk, rfl, rfl, rfl, hlb, hb⟩ := hrel
      have HK := Lib.hid hkk
      have HBR := Lib.hid hb
      obtain ⟨s, hs⟩ : ∃ s, s = sumB (rs.take i) := ⟨_, rfl⟩
      rw [← hs]
      have hsb : 0 ≤ s ∧ s ≤ 144000000 := by
        have := sumB_bd (rs.take i) (fun r hr => HALL.out r (List.mem_of_mem_take hr))
        rw [← hs, List.length_take] at this
        omega
      have HS := Lib.hid hs
      obtain ⟨q, hq⟩ : ∃ q, q = lawM (rs.take i) := ⟨_, rfl⟩
      rw [← hq] at hlb ⊢
      have hqb := hlb.out
      have HQ := Lib.hid hq
      clear hkk hs hq hlb
      by_cases hin : i < n
      · have hir : i < rs.length := by omega
        obtain ⟨gb, off, rfl, hlt, hc⟩ := (HR5.out.below hb).at_ (by omega)
        have hcc := hc i hir
        have HNX := Lib.hid (sumB_take hir)
        have HNL := Lib.hid (lawM_take hir)
        have hpr := HALL.out _ (List.getElem_mem hir)
        obtain ⟨r, hrr⟩ : ∃ r, r = rs[i] := ⟨_, rfl⟩
        rw [← hrr] at hcc HNX HNL hpr
        obtain ⟨L, W, B, Sl, Ce, Ro, Wi, Tr, sm⟩ := r
        have c0 := hcc 0 (by omega)
        have c1 := hcc 1 (by omega)
        have c2 := hcc 2 (by omega)
        have c3 := hcc 3 (by omega)
        have c4 := hcc 4 (by omega)
        have c5 := hcc 5 (by omega)
        have c6 := hcc 6 (by omega)
        have c7 := hcc 7 (by omega)
        have c8 := hcc 8 (by omega)
        simp [RuZ.c] at c0 c1 c2 c3 c4 c5 c6 c7 c8
        clear hrr hc hcc hb hlen
        have htr : 1 ≤ Tr ∧ Tr ≤ 64 := hpr.2.2.2.2.2.2.2.2.1
        have hbb := bytes_bd hpr
        have CY := Lib.hid (fun w => byB_any L W B Sl Ce Ro Wi Tr sm hpr.2.2.2.1 hpr.2.2.2.2.2.2.1 hpr.2.2.2.2.2.2.2.1 hpr.2.2.2.2.2.1 hpr.2.2.2.2.2.2.2.2.1 w)
        obtain ⟨y, hy⟩ : ∃ y, bytesZ Sl Ce Ro Wi Tr = y := ⟨_, rfl⟩
        have hy2 : (RuZ.mk L W B Sl Ce Ro Wi Tr sm).bytes = y := hy
        rw [hy] at CY
        rw [hy2] at hbb HNX
        have HNL2 := Lib.hid (show lawM (rs.take (i + 1)) = mx (mx q 46) (7 + 81 * Tr) from by rw [HNL.out, ← HQ.out])
        have HLB := Lib.hid (show 0 ≤ lawM (rs.take (i + 1)) ∧ lawM (rs.take (i + 1)) ≤ 5191 from by
          rw [HNL2.out]; unfold mx; repeat' split
          all_goals omega)
        clear hpr hy hy2 HNL
        go_upto_region 14 with (fail)
        clear c0 c1 c2 c3 c4 c5 c6 c7 c8
        obtain ⟨w3, hw3, hbk, hbl, hsz⟩ := box_new wr (ruC L W B Sl Ce Ro Wi Tr sm) 23
        change Code.wp _ _ _ _ (wr.alloc (.cells (ruC L W B Sl Ce Ro Wi Tr sm) 23))
        rw [hw3]
        obtain ⟨b3, hb3⟩ : ∃ b3, b3 = wr.heap.size := ⟨_, rfl⟩
        rw [← hb3] at hbk ⊢
        have k3 := hbk.rd
        have B3 := Lib.hid (HBR.out.trans (hbl.mono HBR.out.size))
        clear hbk hbl hsz hw3 hb3 hlt
        have tcase : q < 46 ∨ (¬ q < 46 ∧ q < 7 + 81 * Tr) ∨ (¬ q < 46 ∧ ¬ q < 7 + 81 * Tr) := by omega
        have h46 : (46 : Int) < 7 + 81 * Tr := by omega
        rcases tcase with g1 | ⟨g1, g2⟩ | ⟨g1, g2⟩
        all_goals
          go_wp2_with (go_at_call 13; ((with_reducible refine (CY.out _).mono ?_); rintro e w6 ⟨rfl, b6⟩; have B6 := Lib.hid (B3.out.trans (b6.mono B3.out.size)); clear b6))
          go_roundg (n - (i + 1))
          case measure => have := HK.out; omega
          case rel =>
            refine ⟨i + 1, by omega, by omega, ?_, ?_, by go_num, HLB, B6.out⟩
            · rw [HNL2.out]
              refine congrArg (Value.int .i64) ?_
              unfold mx
              repeat' split
              all_goals omega
            · rw [HNX.out, ← HS.out]
              go_num
      · have hie : i = n := by omega
        subst hie
        have hqm : q = M := by rw [HQ.out, List.take_of_length_le (by omega)]; exact HLM.out
        have hsf : P + s = F := by rw [HS.out, List.take_of_length_le (by omega)]; exact HFE.out
        rw [hqm, hsf]
        clear hlen hb hqm hsf
        have k5 := (BK5.out.keep HBR.out).rd
        go_upto_region 19 with (first
          | (go_at_call 16; ((with_reducible refine (CM.out _ HBR.out).mono ?_); rintro e w6 ⟨rfl, b6⟩; have H6 := Lib.hid (HBR.out.trans (b6.mono HBR.out.size)); have k6 := (BK5.out.keep H6.out).rd; clear b6 k5))
          | (go_at_call 17; ((with_reducible refine (CFt.out _ H6.out).mono ?_); rintro e w7 ⟨rfl, b7⟩; have H7 := Lib.hid (H6.out.trans (b7.mono H6.out.size)); clear b7 k6)))
        have BK7 := Lib.hid (BK5.out.keep H7.out)
        have BL7 := Lib.hid (BL5.out.trans (H7.out.mono BL5.out.size))
        have k7 := BK7.out.rd
        have q7 := BK7.out.wr
        go_upto_region 20 with (fail)
        have BK8 := Lib.hid (show Blk (w7.setCell ⟨b1, 0, none⟩ (.int .i64 F)) b1 29 (#[.int .i64 F, .int .i64 Co, .int .i64 Ou, .slice A i c]) from by rw [setCell_obj BK7.out]; exact setObj_at (lt_of_block BK7.out) _)
        have BL8 := Lib.hid (show Below w.heap.size w (w7.setCell ⟨b1, 0, none⟩ (.int .i64 F)) from by
          rw [setCell_obj BK7.out]
          exact BL7.out.trans ((Fr.setObj (F := fun k => k = b1) (Fr.refl _ _) rfl _).below BL7.out.size (fun k hk => by have := HB1.out; omega)))
        obtain ⟨w8, hw8⟩ : ∃ w8, w8 = w7.setCell ⟨b1, 0, none⟩ (.int .i64 F) := ⟨_, rfl⟩
        rw [← hw8] at BK8 BL8 ⊢
        clear k7 q7 hw8 BK7 BL7
        have k8 := BK8.out.rd
        go_upto_region 21 with (fail)
        obtain ⟨w9, hw9, hbk, hbl, hsz⟩ := box_new w8 (#[.int .i64 F, .int .i64 Co, .int .i64 Ou, .slice A i c]) 29
        change Code.wp _ _ _ _ (w8.alloc (.cells (#[.int .i64 F, .int .i64 Co, .int .i64 Ou, .slice A i c]) 29))
        rw [hw9]
        obtain ⟨b9, hb9⟩ : ∃ b9, b9 = w8.heap.size := ⟨_, rfl⟩
        rw [← hb9] at hbk ⊢
        have BK9 := Lib.hid hbk
        have BL9 := Lib.hid (BL8.out.trans (hbl.mono BL8.out.size))
        have BC9 := Lib.hid (BK8.out.keep hbl)
        have HB9 := Lib.hid (show w.heap.size ≤ b9 ∧ b9 ≠ b1 from by have h1 := BL8.out.size; have h2 := lt_of_block BK8.out; constructor <;> omega)
        have k9 := hbk.rd
        have q9 := hbk.wr
        clear hbk hbl hsz hw9 hb9 k8
        go_upto_region 22 with (fail)
        have BKA := Lib.hid (show Blk (w9.setCell ⟨b9, 0, none⟩ (.int .i64 (F - 1))) b9 29 (#[.int .i64 (F - 1), .int .i64 Co, .int .i64 Ou, .slice A i c]) from by rw [setCell_obj BK9.out]; exact setObj_at (lt_of_block BK9.out) _)
        have BCA := Lib.hid (show Blk (w9.setCell ⟨b9, 0, none⟩ (.int .i64 (F - 1))) b1 29 (#[.int .i64 F, .int .i64 Co, .int .i64 Ou, .slice A i c]) from by rw [setCell_obj BK9.out]; exact BC9.out.fr (Fr.setObj (F := fun k => k = b9) (Fr.refl _ _) rfl _) (fun h => HB9.out.2 h.symm))
        have BLA := Lib.hid (show Below w.heap.size w (w9.setCell ⟨b9, 0, none⟩ (.int .i64 (F - 1))) from by
          rw [setCell_obj BK9.out]
          exact BL9.out.trans ((Fr.setObj (F := fun k => k = b9) (Fr.refl _ _) rfl _).below BL9.out.size (fun k hk => by have := HB9.out.1; omega)))
        obtain ⟨wa, hwa⟩ : ∃ wa, wa = w9.setCell ⟨b9, 0, none⟩ (.int .i64 (F - 1)) := ⟨_, rfl⟩
        rw [← hwa] at BKA BCA BLA ⊢
        clear k9 q9 hwa BK9 BC9 BL9
        have ka := BCA.out.rd
        have FPE : Co * Ou + sumB rs = F := by rw [HPP.out, HFE.out]
        have CT := Lib.hid (fun wx (hx : Below wa.heap.size wa wx) => right_any F Co Ou A i c rs true ⟨fun _ => ⟨hC, hN, by omega, HALL.out, by rw [HME.out]; exact hM, hO, by omega⟩, fun _ => rfl⟩ wx (HR.out.below (BLA.out.trans (hx.mono BLA.out.size))))
        have CN := Lib.hid (fun wx (hx : Below wa.heap.size wa wx) => right_any (F - 1) Co Ou A i c rs false ⟨fun h => absurd h (by simp), fun rz => absurd rz.2.2.2.2.2.2 (by omega)⟩ wx (HR.out.below (BLA.out.trans (hx.mono BLA.out.size))))
        clear FPE
        go_wp2_with (first
          | (go_at_call 14; ((with_reducible refine (CT.out _ (Below.refl _ _)).mono ?_); rintro e wb ⟨rfl, bb⟩; have HBB := Lib.hid bb; have kb := (BKA.out.keep bb).rd; clear bb ka))
          | (go_at_call 14; ((with_reducible refine (CN.out _ HBB.out).mono ?_); rintro e wc ⟨rfl, bc⟩; have HBC := Lib.hid (HBB.out.trans (bc.mono HBB.out.size)); clear bc)))
        go_ret
        exact ⟨rfl, BLA.out.trans (HBC.out.mono BLA.out.size)⟩
end Go.Proofs.Ytfpknklnbgmflaa
