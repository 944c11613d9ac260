/- The law ConnFaults of layer 16, walked. -/
import Derived.Test.YtaghookljjpllaaCnM
namespace Go.Proofs.Ytaghookljjpllaa
set_option linter.unusedSimpArgs false
set_option linter.unusedVariables false
open Go.ChangeShapes Go.WideShapes Go.ChangeAt Go.RowKit
theorem rdI_byt {w : World} {A : Option Addr} {n c : Nat} {zs : List Int} (h : RdI w .u8 A n c zs) : byt zs := fun z hz => wf_u8 (h.wf z hz)
theorem rd_nil (w : World) : RdI w .u8 none 0 0 [] := ⟨rfl, Nat.le_refl _, Nat.zero_le _, fun h => absurd h (by omega), (fun z hz => by cases hz)⟩
theorem host_build (w : World) : (zeroValue 33).run Try.prog w = .ok (.agg #[.slice none 0 0]) w := by kernel_rfl
theorem frm_err (e : Int) : frmZ (errZ e) = [168, 1, 0, 2, 255, e] := by
  show 168 :: 1 :: (be 2 2 ++ [255, e]) = _
  rfl
set_option maxRecDepth 100000 in
set_option maxHeartbeats 2000000 in
theorem cnfaults_law (w : World) (A : Option Addr) (n c : Nat) (zs : List Int) (A2 : Option Addr) (n2 c2 : Nat) (zs2 : List Int) (hr : RdI w .u8 A n c zs) (hr2 : RdI w .u8 A2 n2 c2 zs2) :
    Calls Try.prog 7 #[.slice A n c, .slice A2 n2 c2] w fun e w' => e = .returned (.bool true) ∧ Below w.heap.size w w' := by
  have HR := Lib.hid hr
  have HR2 := Lib.hid hr2
  have hmx1 := hr.max
  have hcp1 := hr.cap
  have hmx2 := hr2.max
  have hcp2 := hr2.cap
  unfold maxLen at hmx1 hmx2
  have HL := Lib.hid hr.len
  have HL2 := Lib.hid hr2.len
  clear hr hr2
  go_enter Try.func7, Try.ntmps7
  go_upto_region 3 with (go_at_call 10; ((refine (cnfit_any _).mono ?_); rintro e w3 ⟨rfl, b3⟩; have B3 := Lib.hid b3; clear b3))
  by_cases hn : 300 < n
  · have t1 : decide ((300 : Int) < (n : Int)) = true := by rw [decide_eq_true_iff]; omega
    clear hn
    go_wp2
    go_ret
    exact ⟨rfl, B3.out⟩
  have t1 : decide ((300 : Int) < (n : Int)) = false := by rw [decide_eq_false_iff_not]; omega
  by_cases hn2 : 300 < n2
  · have t2 : decide ((300 : Int) < (n2 : Int)) = true := by rw [decide_eq_true_iff]; omega
    clear hn hn2
    go_wp2
    go_ret
    exact ⟨rfl, B3.out⟩
  have t2 : decide ((300 : Int) < (n2 : Int)) = false := by rw [decide_eq_false_iff_not]; omega
  have CN := Lib.hid (cnew_z 4 4000 4000 rfl (by omega) (by omega) w3)
  go_upto_region 6 with (go_at_call 11; ((with_reducible refine CN.out.mono ?_); rintro e w4 ⟨Kn, rfl, hs, hru, h1, lo, b1⟩; have H1 := Lib.hid h1; have LO := Lib.hid lo; have B4 := Lib.hid b1; have HSZ := Lib.hid hs; have HRU := Lib.hid hru; clear h1 lo b1 hs hru))
  have C5 := Lib.hid (c1_new H1.out (fun k hk => Nat.le_trans B3.out.size (LO.out k hk)) (G.below_on B3.out B4.out))
  obtain ⟨hb, hhb⟩ : ∃ x, x = w4.heap.size := ⟨_, rfl⟩
  rw [← hhb] at C5 ⊢
  generalize w4.alloc (.cells #[.slice none 0 0] 33) = w5 at C5 ⊢
  have CO := Lib.hid (copen_yes w5 C5.out.ch.c rfl)
  have HBY := Lib.hid (rdI_byt HR.out)
  have hfar := acc_far (rules := Kn.rules) (size := Kn.size) zs ⟨[], 0, [], true⟩ (st_new _ _ _) HBY.out rfl (by rw [HSZ.out]; have := HL.out; show 0 + 5 * 0 + 5 * zs.length + 30 ≤ 4000; omega)
  obtain ⟨a, ha⟩ : ∃ a, a = accH Kn.rules Kn.size ⟨[], 0, [], true⟩ zs := ⟨_, rfl⟩
  have hob := acc_outb (rules := Kn.rules) (size := Kn.size) zs ⟨[], 0, [], true⟩ (st_new _ _ _) HBY.out (fun z hz => by cases hz)
  have hrq := (fun h => Nat.le_trans (show _ ≤ _ from h.2.2.2.2.1) h.2.2.1) (acc_sum (rules := Kn.rules) (size := Kn.size) zs ⟨[], 0, [], true⟩ (st_new _ _ _) HBY.out (Nat.zero_le _))
  rw [← ha] at hfar hob hrq
  have CA := Lib.hid (fun wx (h : C1 w wx Kn hb (hb + 1) ⟨[], 0, [], true⟩ [] (.slice none 0 0)) => hoaccept A n c zs wx h (by show 0 + n ≤ 1000000; omega) rfl HR.out)
  rw [← ha] at CA
  obtain ⟨N1, σ1, rq⟩ := a
  have HFAR := Lib.hid hfar
  have HOB1 := Lib.hid hob
  have HRQ := Lib.hid (show rq.length ≤ 300 ∧ n2 ≤ 300 from ⟨by have := HL.out; have h2 : rq.length ≤ zs.length := hrq; omega, by omega⟩)
  clear ha hfar hob hrq hn hn2 hhb
  go_upto_region 8 with (first
    | (go_at_call 15; ((with_reducible refine CO.out.mono ?_); rintro e w6 ⟨rfl, h6, f6⟩; have C6 := Lib.hid (C5.out.cn h6 f6); clear h6 f6))
    | (go_at_call 13; ((with_reducible refine (CA.out _ C6.out).mono ?_); rintro e w7 ⟨rfl, v7, h7⟩; have C7 := Lib.hid h7; clear h7)))
  have hop := HFAR.out.1
  have CD := Lib.hid (cdrain_yes 4000 σ1.out.length w7 C7.out.ch.c hop (by
    have := C7.out.ch.c.b.le
    rw [HSZ.out] at this
    show (σ1.out.length : Int) = max 0 (min 4000 (σ1.out.length : Int))
    have h2 : σ1.out.length ≤ 4000 := this.1
    omega))
  have HOB := Lib.hid (show byt σ1.out ∧ σ1.out.length ≤ 4000 from ⟨HOB1.out, by have := C7.out.ch.c.b.le; rw [HSZ.out] at this; exact this.1⟩)
  go_upto_region 9 with (go_at_call 14; ((with_reducible refine CD.out.mono ?_); rintro e w8 ⟨s8, rfl, k8, h8, f8, n8⟩; have C8 := Lib.hid (C7.out.cn h8 f8); have cv := conv_str (P := Try.prog) (src := 27) (dst := 9) Try.underlying27 Try.underlying5 Try.underlying9 (rd_blk k8 (by rw [List.take_length]) (by have := HOB.out.2; unfold maxLen; omega) (fun z hz => u8_wf (HOB.out.1 z (List.mem_of_mem_take hz)))); rw [List.take_length] at cv; clear k8 h8 f8 n8))
  clear cv
  have CE := Lib.hid (errx _ _ Kn.c σ1.z Kn.rules σ1.err w8 C8.out.ch.c.d)
  rcases HFAR.out.2 with ⟨g1, g2, g3⟩ | ⟨e, p, g1, g2, g3, g4, g5, g6⟩
  · as_aux_lemma =>
      have t3 : (σ1.err == 0) = true := by rw [g1]; rfl
      have hN : N1 = n := g2.trans HL.out
      subst hN
      have t4 : ((N1 : Int) == (N1 : Int)) = true := by simp
      clear g1 g2 g3 hop
      go_wp2_with (go_at_call 20; ((with_reducible refine CE.out.mono ?_); rintro e w9 ⟨rfl, rfl⟩))
      go_ret
      exact ⟨rfl, C8.out.bl⟩
  · change σ1.err = e at g3
    change σ1.out = p ++ frmZ (errZ e) at g4
    change 1 ≤ N1 at g6
    rw [g3] at CE
    have t3 : (e == 0) = false := by rw [beq_eq_false_iff_ne]; omega
    have CF := Lib.hid (fun wx => rfaulted_any e (by omega) wx)
    have HE := Lib.hid (show 1 ≤ e ∧ e ≤ 10 from ⟨g1, g2⟩)
    have HO1 := Lib.hid g4
    have HG6 := Lib.hid g6
    have CA2 := Lib.hid (fun wx (h : C1 w wx Kn hb (hb + 1) ⟨σ1.z, σ1.err, σ1.out.drop σ1.out.length, σ1.op⟩ ([] ++ rq) v7) => show Calls Try.prog 13 #[.pointer (some ⟨Kn.c, 0, none⟩), .slice A2 n2 c2, .iface 30 (.pointer (some ⟨hb, 0, none⟩))] wx (fun e w' => e = .returned (.int .i64 0) ∧ ∃ v', C1 w w' Kn hb (hb + 1) ⟨σ1.z, σ1.err, [], σ1.op⟩ ([] ++ rq) v') from by
      have := hoaccept A2 n2 c2 zs2 wx h (by have := HRQ.out; rw [List.nil_append]; omega) hop HR2.out
      rw [acc_err (by show σ1.err ≠ 0; omega), List.drop_length] at this
      simp only [List.append_nil] at this ⊢
      exact this)
    have CA3 := Lib.hid (fun wx v (h : C1 w wx Kn hb (hb + 1) ⟨σ1.z, σ1.err, [], σ1.op⟩ ([] ++ rq) v) => show Calls Try.prog 13 #[.pointer (some ⟨Kn.c, 0, none⟩), .slice none 0 0, .iface 30 (.pointer (some ⟨hb, 0, none⟩))] wx (fun e w' => e = .returned (.int .i64 0) ∧ ∃ v', C1 w w' Kn hb (hb + 1) ⟨σ1.z, σ1.err, [], σ1.op⟩ ([] ++ rq) v') from by
      have := hoaccept none 0 0 [] wx h (by have := HRQ.out; rw [List.nil_append]; omega) hop (rd_nil w)
      rw [acc_err (by show σ1.err ≠ 0; omega)] at this
      simp only [List.append_nil] at this ⊢
      exact this)
    clear g1 g2 g3 g4 g5 g6 hop
    go_upto_region 11 with (go_at_call 20; ((with_reducible refine CE.out.mono ?_); rintro e' w9 ⟨rfl, rfl⟩))
    go_upto_region 12 with (first
      | (go_at_call 20; ((with_reducible refine CE.out.mono ?_); rintro e' w9 ⟨rfl, rfl⟩))
      | (go_at_call 23; ((with_reducible refine (CF.out _).mono ?_); rintro e' w10 ⟨v10, rfl, o10, b10⟩; obtain ⟨g10, c10, rfl, rd10, _, _⟩ := own_rdn o10 (fault_byt (by have := HE.out; omega)) 6 rfl (by omega); have C10 := Lib.hid (C8.out.keep b10); have cv := conv_str (P := Try.prog) (src := 27) (dst := 9) Try.underlying27 Try.underlying5 Try.underlying9 rd10; clear rd10 o10 b10)))
    clear cv
    obtain ⟨L, hL⟩ : ∃ L : Nat, L = (strOfNums σ1.out).size := ⟨_, rfl⟩
    have hsz : (strOfNums σ1.out).size = L := hL.symm
    have hLp : L = p.length + 6 := by rw [hL, str_size, HO1.out, List.length_append]; rfl
    have hLb : L ≤ 4000 := by rw [hL, str_size]; exact HOB.out.2
    have t4 : decide ((1 : Int) ≤ (N1 : Int)) = true := by rw [decide_eq_true_iff]; have := HG6.out; omega
    have t5 : decide ((6 : Int) ≤ (L : Int)) = true := by rw [decide_eq_true_iff]; omega
    obtain ⟨J, hJ⟩ : ∃ J : Nat, J = L - 6 := ⟨_, rfl⟩
    have e5 : IntKind.i64.wrap ((L : Int) - 6) = (J : Int) := by rw [IntKind.wrap_i64]; omega
    have hx : (strOfNums σ1.out).extract J L = strOfNums (frmZ (errZ e)) := by
      rw [str_extract, HO1.out, List.take_of_length_le (by rw [List.length_append]; show p.length + 6 ≤ L; omega), show J = p.length by omega, List.drop_left]
    have hJL : (J : Int) ≤ (L : Int) := by omega
    have t6 : ((strOfNums (frmZ (errZ e))).toList == (strOfNums (frmZ (errZ e))).toList) = true := by simp
    have CW := Lib.hid (fun wx v (h : C1 w wx Kn hb (hb + 1) ⟨σ1.z, σ1.err, [], σ1.op⟩ ([] ++ rq) v) => show Calls Try.prog 18 #[.pointer (some ⟨Kn.c, 0, none⟩)] wx (fun e w' => e = .returned (.int .i64 0) ∧ wx = w') from cwaits_any wx h.ch.c)
    clear hL hLp hLb hJ
    go_wp2_with (first
      | (go_at_call 13; first
        | ((with_reducible refine (CA2.out _ C10.out).mono ?_); rintro e' w11 ⟨rfl, v11, h11⟩; have C11 := Lib.hid h11; clear h11)
        | ((with_reducible refine (CA3.out _ _ C11.out).mono ?_); rintro e' w12 ⟨rfl, v12, h12⟩; have C12 := Lib.hid h12; clear h12))
      | (go_at_call 18; ((with_reducible refine (CW.out _ _ C11.out).mono ?_); rintro e' w13 ⟨rfl, rfl⟩)))
    go_ret
    exact ⟨rfl, C12.out.bl⟩
end Go.Proofs.Ytaghookljjpllaa
