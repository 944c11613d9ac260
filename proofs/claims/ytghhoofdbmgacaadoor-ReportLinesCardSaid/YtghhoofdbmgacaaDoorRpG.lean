/- The laws of layer 21 (report), walked: any bytes, joins. -/
import Derived.Test.YtghhoofdbmgacaaDoorRpF
namespace Go.Proofs.YtghhoofdbmgacaaDoor
set_option linter.unusedSimpArgs false
set_option linter.unusedVariables false
open Go.ChangeShapes Go.WideShapes Go.ChangeAt Go.RowKit Go.Deep
theorem said_fit (w : World) (ht : Tb w) : Calls Tryd.prog 10 #[.agg (sdC 127 0 0 0 0 0 0 0 0 0 nilV 5)] w fun e w' => e = .returned (.string ⟨#[102, 97, 117, 108, 116, 32, 53]⟩) ∧ Below w.heap.size w w' := by
  have h := rsaid_err 5 nilV 0 0 0 0 0 0 0 0 0 (by unfold i64P; omega) w ht
  have e : strOfNums ([102, 97, 117, 108, 116] ++ numsZ [5]) = ⟨#[102, 97, 117, 108, 116, 32, 53]⟩ := by
    rw [numsZ, numsZ, decZ_one (by omega)]
    apply ByteArray.ext
    rfl
  rw [e] at h
  exact h
theorem fit_any (w : World) (ht : Tb w) : Calls Tryd.prog 7 #[] w fun e w' => e = .returned (.bool true) ∧ Below w.heap.size w w' := by
  have CS := Lib.hid (said_fit w ht)
  clear ht
  go_enter Tryd.func7, Tryd.ntmps7
  go_wp2_with (go_at_call 10; ((with_reducible refine CS.out.mono ?_); rintro e w1 ⟨rfl, b1⟩; have B1 := Lib.hid b1; clear b1))
  go_ret
  exact ⟨rfl, B1.out⟩
theorem own_rdx {w : World} {B : Nat} {v : Value} {zs : List Int} (h : Own w B v zs) (hb : ∀ z ∈ zs, 0 ≤ z ∧ z ≤ 255) (k : Nat) (hk : zs.length = k) : ∃ A c, v = .slice A k c ∧ RdI w .u8 A k c zs ∧ True := by
  subst hk
  obtain ⟨A, c, h1, h2, _⟩ := h.rd hb
  exact ⟨A, c, h1, h2, trivial⟩
theorem stp_len {z : List Int} (hb : byt z) {j t : Nat} {L : List Int} (h : stp z j = some (t, L)) (hz : z.length ≤ 6000) : L.length ≤ 52010000 := by
  obtain ⟨h3, h2, h1, _⟩ := stp_ok hb h
  have h5 : j ≤ 1000 := by omega
  have h6 := Nat.mul_le_mul_left 52001 h5
  omega
set_option maxHeartbeats 8000000 in
theorem joins_law (w : World) (A : Option Addr) (n c : Nat) (z : List Int) (A2 : Option Addr) (n2 c2 : Nat) (z2 : List Int) (hr : RdI w .u8 A n c z) (hr2 : RdI w .u8 A2 n2 c2 z2) (ht : Tb w) :
    Calls Tryd.prog 6 #[.slice A n c, .slice A2 n2 c2] w fun e w' => e = .returned (.bool true) ∧ Below w.heap.size w w' := by
  have CF := Lib.hid (fit_any w ht)
  by_cases h1 : (2000 : Int) < (n : Int)
  · clear hr hr2
    go_enter Tryd.func6, Tryd.ntmps6
    go_wp2_with (go_at_call 7; ((with_reducible refine CF.out.mono ?_); rintro e w1 ⟨rfl, b1⟩; have B1 := Lib.hid b1; clear b1))
    go_ret
    exact ⟨rfl, B1.out⟩
  by_cases h2 : (2000 : Int) < (n2 : Int)
  · clear hr hr2
    go_enter Tryd.func6, Tryd.ntmps6
    go_wp2_with (go_at_call 7; ((with_reducible refine CF.out.mono ?_); rintro e w1 ⟨rfl, b1⟩; have B1 := Lib.hid b1; clear b1))
    go_ret
    exact ⟨rfl, B1.out⟩
  have HR := Lib.hid hr
  have HR2 := Lib.hid hr2
  have HT := Lib.hid ht
  have HN := Lib.hid (show n ≤ 2000 ∧ n2 ≤ 2000 from by omega)
  have HBY := Lib.hid (rdI_hd hr)
  have HBY2 := Lib.hid (rdI_hd hr2)
  have HL := Lib.hid hr.len
  have HL2 := Lib.hid hr2.len
  have CS1 := Lib.hid (fun wx (hx : Below w.heap.size w wx) => stream_any A n c z wx (by have := HN.out; omega) (HR.out.below hx) (HT.out.below hx))
  have CS2 := Lib.hid (fun wx (hx : Below w.heap.size w wx) => stream_any A2 n2 c2 z2 wx (by have := HN.out; omega) (HR2.out.below hx) (HT.out.below hx))
  clear hr hr2 ht
  go_enter Tryd.func6, Tryd.ntmps6
  go_upto_region 6 with (first
    | (go_at_call 7; ((with_reducible refine CF.out.mono ?_); rintro e w1 ⟨rfl, b1⟩; have B1 := Lib.hid b1; clear b1))
    | (go_at_call 12; ((with_reducible refine (CS1.out _ B1.out).mono ?_); rintro e w2 ⟨j1, t1, L1, rfl, p1, q1, b2⟩; have P1 := Lib.hid p1; have Q1 := Lib.hid q1; have B2 := Lib.hid (B1.out.trans (b2.mono B1.out.size)); clear b2 p1 q1)))
  go_upto_region 7 with (go_at_call 12; ((with_reducible refine (CS2.out _ B2.out).mono ?_); rintro e w3 ⟨j2, t2, L2, rfl, p2, q2, b3⟩; have P2 := Lib.hid p2; have Q2 := Lib.hid q2; have B3 := Lib.hid (B2.out.trans (b3.mono B2.out.size)); clear b3 p2 q2))
  by_cases ht1 : t1 = n
  · subst ht1
    have R3 := Lib.hid (HR.out.below B3.out)
    have T3 := Lib.hid (HR2.out.below B3.out)
    have HZ1 := Lib.hid (stp_len HBY.out P1.out (by have := HN.out; have := HL.out; omega))
    have HZ2 := Lib.hid (stp_len HBY2.out P2.out (by have := HN.out; have := HL2.out; omega))
    have HJ := Lib.hid (stp_join HBY.out (i := j1) (L := L1) (by rw [HL.out]; exact P1.out) P2.out)
    have HJE := Lib.hid (show stp (z ++ z2) (j1 + j2 + 1) = none from by
      have h := HJ.out
      refine stp_end h ?_
      rw [List.drop_append, show z.length + t2 - z.length = t2 by omega, List.drop_eq_nil_of_le (by omega), List.nil_append]
      cases hh : readZ (z2.drop t2) with
      | none => rfl
      | some sm => have := stp_step P2.out hh; rw [Q2.out] at this; cases this)
    have HB12 := Lib.hid (show ∀ x ∈ z ++ z2, 0 ≤ x ∧ x ≤ 255 from fun x hx => (List.mem_append.1 hx).elim (HBY.out x) (HBY2.out x))
    have HLL := Lib.hid (show (z ++ z2).length = t1 + n2 from by rw [List.length_append, HL.out, HL2.out])
    have hti : (t2 : Int) ≤ 2000 := by have := (stp_ok HBY2.out P2.out).1; have := HL2.out; omega
    obtain ⟨s1, hs1⟩ : ∃ s, s = strOfNums L1 := ⟨_, rfl⟩
    obtain ⟨s2, hs2⟩ : ∃ s, s = strOfNums L2 := ⟨_, rfl⟩
    have z1 : s1.size ≤ 52010000 := by rw [hs1, str_size]; exact HZ1.out
    have z2' : s2.size ≤ 52010000 := by rw [hs2, str_size]; exact HZ2.out
    have HSS := Lib.hid (show strOfNums (L1 ++ L2) = s1 ++ s2 from by rw [hs1, hs2, str_append])
    have CS3 := Lib.hid (fun (A3 : Option Addr) (c3 : Nat) (wx : World) (hx : Below w.heap.size w wx) (h : RdI wx .u8 A3 (t1 + n2) c3 (z ++ z2)) => show Calls Tryd.prog 12 #[.slice A3 (t1 + n2) c3] wx (fun e w' => e = .returned (.tuple #[.string (s1 ++ s2), .int .i64 ((t1 : Int) + (t2 : Int))]) ∧ Below wx.heap.size wx w') from
      (stream_any A3 (t1 + n2) c3 (z ++ z2) wx (by have := HN.out; omega) h (HT.out.below hx)).mono (fun e w' ⟨j3, t3, L3, he, p3, q3, b⟩ => by
        have e3 := stp_uniq p3 q3 HJ.out HJE.out
        subst e3
        have e4 := p3.symm.trans HJ.out
        injection e4 with e4; injection e4 with e4 e5
        refine ⟨?_, b⟩
        rw [he, e5, HSS.out, e4, HL.out]
        simp))
    rw [← hs1, ← hs2]
    clear hs1 hs2
    go_upto_region 10 with (first
      | (at_builtin; refine wpList_appI (by rfl) _ _ c (by rfl) (by rfl) (by rfl) (own_nil _ w.heap.size) R3.out (by have := HN.out; simp; omega) B3.out.size ?_; intro v4 w4 o4 g4; have O4 := Lib.hid o4; have B4 := Lib.hid (B3.out.trans ((fr_row g4).below B3.out.size (fun g hg => by cases hg))); have T4 := Lib.hid (T3.out.below ((fr_row g4).below (Nat.le_refl _) (fun g hg => by cases hg))); clear o4 g4)
      | (at_builtin; refine wpList_appI (by rfl) _ _ c2 (by rfl) (by rfl) (by rfl) O4.out T4.out (by have := HN.out; have := HL.out; simp; omega) B4.out.size ?_; intro v5 w5 o5 g5; have B5 := Lib.hid (B4.out.trans ((fr_row g5).below B4.out.size (fun g hg => (O4.out.lt g hg).1))); rw [List.nil_append] at o5; obtain ⟨g', c', rfl, r5, _⟩ := own_rdx o5 HB12.out (t1 + n2) HLL.out; have R5 := Lib.hid r5; clear o5 g5 r5)
      | (go_at_call 12; ((with_reducible refine (CS3.out _ _ _ B5.out R5.out).mono ?_); rintro e w6 ⟨rfl, b6⟩; have B6 := Lib.hid (B5.out.trans (b6.mono B5.out.size)); clear b6)))
    go_wp2
    go_ret
    exact ⟨rfl, B6.out⟩
  · have g1 : ((t1 : Int) != (n : Int)) = true := by simp; omega
    go_wp2
    go_ret
    exact ⟨rfl, B3.out⟩
end Go.Proofs.YtghhoofdbmgacaaDoor
