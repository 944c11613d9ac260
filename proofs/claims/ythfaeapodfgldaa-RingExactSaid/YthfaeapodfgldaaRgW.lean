/- The contracts of layer 7 (ring): Mass, Add. -/
import Derived.Test.YthfaeapodfgldaaRgE
namespace Go.Proofs.Ythfaeapodfgldaa
set_option linter.unusedSimpArgs false
set_option linter.unusedVariables false
open Go.ChangeShapes Go.WideShapes Go.ChangeAt Go.RowKit
open Ar (inR)
/-- a row's counter of a key; nothing, if there is no such row. -/
def cntZ (R : RgN) (f : Nat → Nat → Int) (row : Int) (s : ByteArray) : Int := if 0 ≤ row ∧ row < (R.k : Int) then f row.toNat (R.P row.toNat s) else 0
theorem cntZ_in {R : RgN} {f : Nat → Nat → Int} (h : Sk.okC f) (row : Int) (s : ByteArray) : 0 ≤ cntZ R f row s ∧ cntZ R f row s ≤ 9223372036854775807 := by
  unfold cntZ
  split
  · exact h _ _
  · omega
/-- what a row's counters of a key have in the first j parts, from a number on. -/
def msum (R : RgN) (σ : RgS) (row : Int) (s : ByteArray) (a : Int) : Nat → Int
  | 0 => 0
  | j + 1 => if a ≤ σ.num j then clamp (msum R σ row s a j + cntZ R (σ.F j) row s) else msum R σ row s a j
section
variable {w w' : World} {R : RgN} {σ : RgS}
theorem msum_in {j : Nat} (h : ∀ i, i < j → Sk.okC (σ.F i)) (row : Int) (s : ByteArray) (a : Int) : 0 ≤ msum R σ row s a j ∧ msum R σ row s a j ≤ 9223372036854775807 := by
  induction j with
  | zero => exact ⟨Int.le_refl _, by show (0:Int) ≤ _; omega⟩
  | succ j ih =>
    have ih := ih (fun i hi => h i (by omega))
    unfold msum
    split
    · exact clamp_two ih (cntZ_in (h j (by omega)) row s)
    · exact ih
theorem rcount_any (row : Int) (hrow : -9223372036854775808 ≤ row ∧ row ≤ 9223372036854775807) (s : ByteArray) (hs : s.size ≤ maxLen) (i : Nat) (hi : i < R.n) (w : World) (h : RgAt w R σ) :
    Calls Try.prog 35 #[.pointer (some ⟨R.bs i, 0, none⟩), .int .i64 row, .string s] w fun e w' => e = .returned (.int .i64 (cntZ R (σ.F i) row s)) ∧ Below w.heap.size w w' := by
  by_cases hr : 0 ≤ row ∧ row < (R.k : Int)
  · have e : cntZ R (σ.F i) row s = σ.F i row.toNat (R.P row.toNat s) := by unfold cntZ; rw [if_pos hr]
    rw [e]
    exact scount_z row row.toNat (by omega) s hs w (h.hs i hi) (by show row.toNat < R.k; omega)
  · have e : cntZ R (σ.F i) row s = 0 := by unfold cntZ; rw [if_neg hr]
    rw [e]
    exact (scount_no row hrow s w (h.hs i hi) (by show row < 0 ∨ (R.k : Int) ≤ row; omega)).mono (fun e w' hh => ⟨hh.1, by rw [← hh.2]; exact Below.refl _ _⟩)
theorem rmass_nil (row : Int) (s : ByteArray) (w : World) : Calls Try.prog 19 #[.pointer none, .int .i64 row, .string s] w fun e w' => e = .returned (.int .i64 0) ∧ w = w' := by
  go_enter Try.func19, Try.ntmps19
  go_wp2
  go_ret
  exact ⟨rfl, rfl⟩
set_option maxHeartbeats 1000000 in
theorem rmass_any (row : Int) (hrow : -9223372036854775808 ≤ row ∧ row ≤ 9223372036854775807) (s : ByteArray) (hs : s.size ≤ maxLen) (w : World) (h : RgAt w R σ) :
    Calls Try.prog 19 #[.pointer (some ⟨R.x, 0, none⟩), .int .i64 row, .string s] w fun e w' => e = .returned (.int .i64 (msum R σ row s (σ.now R - ((R.n : Int) - 1)) R.n)) ∧ Below w.heap.size w w' := by
  have HH := Lib.hid h
  have HS := Lib.hid (And.intro hs hrow)
  have hn := h.bd.1
  have t0 : (R.n : Int) ≤ 65 := by omega
  have CE := Lib.hid (reldest_any w h)
  obtain ⟨a, ha⟩ : ∃ a, a = σ.now R - ((R.n : Int) - 1) := ⟨_, rfl⟩
  rw [← ha] at CE ⊢
  clear h hs hn ha hrow
  go_enter Try.func19, Try.ntmps19
  go_upto_region 4 with (go_at_call 31; ((with_reducible refine CE.out.mono ?_); rintro e w1 ⟨rfl, b1⟩; have B1 := Lib.hid b1; clear b1))
  have k := (HH.out.keep B1.out).hx.rd
  go_wp2
  clear k
  go_loopg [20, 7] R.n (fun kk si ss wr => ∃ j : Nat, j ≤ R.n ∧ Hid (kk = R.n - j) ∧ si = .int .i64 (j : Int) ∧ ss = .int .i64 (msum R σ row s a j) ∧ Hid (Below w.heap.size w wr))
  case atStart => exact ⟨0, by omega, Lib.hid rfl, rfl, rfl, B1⟩
  case round =>
    obtain ⟨j, hj, HKK, rfl, rfl, HB⟩ := hrel
    by_cases hjn : j < R.n
    · have HR := Lib.hid (HH.out.keep HB.out)
      obtain ⟨kr0, kr1⟩ := HR.out.part hjn
      obtain ⟨x1, x2, ex1, kr, kw, ex2, bl2, kc2⟩ := box2 wr 61 (.int .i64 0) (.pointer none) (.int .i64 (σ.num j)) (.pointer (some ⟨R.bs j, 0, none⟩))
      have BX := Lib.hid (HB.out.trans (bl2.mono HB.out.size))
      have HX := Lib.hid (HR.out.keep bl2)
      have kc3 := kc2.rd
      have t2 : (j : Int) < (R.n : Int) := by omega
      have HJN := Lib.hid hjn
      have hsum : msum R σ row s a (j + 1) = if a ≤ σ.num j then clamp (msum R σ row s a j + cntZ R (σ.F j) row s) else msum R σ row s a j := rfl
      have hin := msum_in (R := R) (σ := σ) (j := j) (fun i hi => (HR.out.hs i (by omega)).ok) row s a
      have hli := cntZ_in (R := R) (HR.out.hs j hjn).ok row s
      obtain ⟨lv, hlv⟩ : ∃ lv, lv = msum R σ row s a j := ⟨_, rfl⟩
      obtain ⟨cv, hcv⟩ : ∃ cv, cv = cntZ R (σ.F j) row s := ⟨_, rfl⟩
      have CL := Lib.hid (rcount_any row HS.out.2 s HS.out.1 j hjn x2 HX.out)
      rw [← hlv, ← hcv] at hsum
      rw [← hlv] at hin ⊢
      rw [← hcv] at hli CL
      have CS := Lib.hid (fun w => sum_any lv cv (by unfold inR; omega) (by unfold inR; omega) w)
      have HSU := Lib.hid hsum
      clear bl2 kc2 hjn hin hli hlv hcv hsum
      go_upto_region 7 with (fail)
      clear kr kw ex1 kr0 kr1 ex2
      by_cases ha : a ≤ σ.num j
      · have HAB := Lib.hid ha
        go_wp2_with (first
            | (go_at_call 35; ((with_reducible refine CL.out.mono ?_); rintro e w3 ⟨rfl, b3⟩; have B3 := Lib.hid (BX.out.trans (b3.mono BX.out.size)); clear b3))
            | (go_at_call 34; ((with_reducible refine (CS.out _).mono ?_); rintro e w4 ⟨rfl, rfl⟩)))
        go_roundg (R.n - (j + 1))
        case measure => have := HKK.out; have := HJN.out; omega
        case rel => exact ⟨j + 1, HJN.out, Lib.hid rfl, by go_num, by rw [HSU.out, if_pos HAB.out], B3⟩
      · have HAB := Lib.hid ha
        go_wp2
        go_roundg (R.n - (j + 1))
        case measure => have := HKK.out; have := HJN.out; omega
        case rel => exact ⟨j + 1, HJN.out, Lib.hid rfl, by go_num, by rw [HSU.out, if_neg (Int.not_le.2 HAB.out)], BX⟩
    · have hje : j = R.n := by omega
      have t2 : ¬ ((j : Int) < (R.n : Int)) := by omega
      have HJ := Lib.hid hje
      clear hjn hje
      go_wp2
      go_ret
      exact ⟨by rw [← HJ.out]; rfl, HB.out⟩
/-! #### Add -/
def updN {α : Type} (f : Nat → α) (i : Nat) (v : α) : Nat → α := fun j => if j = i then v else f j
theorem updN_self {α : Type} (f : Nat → α) (i : Nat) (v : α) : updN f i v i = v := if_pos rfl
theorem updN_ne {α : Type} (f : Nat → α) {i j : Nat} (v : α) (h : j ≠ i) : updN f i v j = f j := if_neg h
theorem ptL_set (R : RgN) (num : Nat → Int) {i : Nat} (_hi : i < R.n) (v : Int) : (ptL R num).set i (v, R.bs i) = ptL R (updN num i v) := by
  apply List.ext_getElem?
  intro j
  by_cases hj : j < R.n
  · rw [List.getElem?_set]
    by_cases e : i = j
    · subst e; rw [if_pos rfl, if_pos (by rw [ptL_len]; exact hj), ptL_get R _ hj, updN_self]
    · rw [if_neg e, ptL_get R _ hj, ptL_get R _ hj, updN_ne _ _ (Ne.symm e)]
  · rw [List.getElem?_eq_none (by rw [List.length_set, ptL_len]; omega), List.getElem?_eq_none (by rw [ptL_len]; omega)]
theorem RgAt.putF {i : Nat} {f : Nat → Nat → Int} (h : RgAt w R σ) (hi : i < R.n) (h1 : SlAt w' (R.SN i) f) (hf : Fr (fun b => b = R.gs i) w w') : RgAt w' R ⟨σ.t, σ.num, updN σ.F i f⟩ := by
  refine ⟨h.hx.fr hf (fun e => (h.ns i hi).2.1 e.symm), h.hp.fr hf (fun e => (h.ns i hi).2.2 e.symm), fun j hj => ?_, h.nx, h.ns, h.ng, h.bd, h.ht, h.hn⟩
  by_cases e : j = i
  · subst e; show SlAt w' (R.SN j) (updN σ.F j f j); rw [updN_self]; exact h1
  · show SlAt w' (R.SN j) (updN σ.F i f j)
    rw [updN_ne _ _ e]
    exact (h.hs j hj).fr hf (fun e2 => (h.ng i j hi hj).1 e2.symm) (fun e2 => (h.ng i j hi hj).2 (Ne.symm e) e2.symm)
theorem RgAt.putN {i : Nat} {v : Int} (h : RgAt w R σ) (_hi : i < R.n) (hv : 0 ≤ v ∧ v ≤ 9223372036854775807) : RgAt (setObj w R.pb (.cells (rws encPt (ptL R (updN σ.num i v))).toArray 61 (0, 0))) R ⟨σ.t, updN σ.num i v, σ.F⟩ := by
  have hf : Fr (fun b => b = R.pb) w (setObj w R.pb (.cells (rws encPt (ptL R (updN σ.num i v))).toArray 61 (0, 0))) := Fr.setObj (F := fun b => b = R.pb) (Fr.refl _ _) rfl _
  exact ⟨h.hx.fr hf h.nx, setObj_at (lt_of_block h.hp) _, fun j hj => (h.hs j hj).fr hf (h.ns j hj).1.2 (h.ns j hj).2.2, h.nx, h.ns, h.ng, h.bd, h.ht, fun j => by
    show 0 ≤ updN σ.num i v j ∧ updN σ.num i v j ≤ _
    by_cases e : j = i
    · rw [e, updN_self]; exact hv
    · rw [updN_ne _ _ e]; exact h.hn j⟩
/-- the place of the slot that is now. -/
def RgS.pl (σ : RgS) (R : RgN) : Nat := (σ.now R % (R.n : Int)).toNat
/-- a key has so much more now. -/
def RgS.add (σ : RgS) (R : RgN) (s : ByteArray) (c : Int) : RgS :=
  ⟨σ.t, updN σ.num (σ.pl R) (σ.now R), updN σ.F (σ.pl R) (Sk.add (if σ.num (σ.pl R) = σ.now R then σ.F (σ.pl R) else fun _ _ => 0) R.P R.k s c)⟩
theorem RgAt.pl_lt (h : RgAt w R σ) : σ.pl R < R.n ∧ σ.now R % (R.n : Int) = (σ.pl R : Int) := by
  have hn := h.bd.1
  have h1 := Int.emod_nonneg (σ.now R) (show (R.n : Int) ≠ 0 by omega)
  have h2 := Int.emod_lt_of_pos (σ.now R) (show (0 : Int) < (R.n : Int) by omega)
  unfold RgS.pl
  omega
theorem radd_nil (s : ByteArray) (c : Int) (w : World) : Calls Try.prog 17 #[.pointer none, .string s, .int .i64 c] w fun e w' => e = .returned (.tuple #[]) ∧ w = w' := by
  go_enter Try.func17, Try.ntmps17
  go_wp2
  exact bodyPost_ret (results_none rfl _ _ _) rfl ⟨rfl, rfl⟩
set_option maxHeartbeats 1000000 in
theorem radd_any (s : ByteArray) (hs : s.size ≤ maxLen) (c : Int) (hc : -9223372036854775808 ≤ c ∧ c ≤ 9223372036854775807) (w : World) (h : RgAt w R σ) :
    Calls Try.prog 17 #[.pointer (some ⟨R.x, 0, none⟩), .string s, .int .i64 c] w fun e w' => e = .returned (.tuple #[]) ∧ RgAt w' R (σ.add R s c) ∧ Fr R.F w w' := by
  have HH := Lib.hid h
  have HS := Lib.hid (And.intro hs hc)
  have hn := h.bd.1
  have hnow := h.now_in
  have hpl := h.pl_lt
  have k := h.hx.rd
  have kp := h.part hpl.1
  have CN := Lib.hid (show Calls Try.prog 20 #[.pointer (some ⟨R.x, 0, none⟩), .int .i64 σ.t] w (fun e w' => e = .returned (.int .i64 (σ.now R)) ∧ w = w') from rnumber_any σ.t h.ht w h)
  have HA := Lib.hid (show σ.add R s c = ⟨σ.t, updN σ.num (σ.pl R) (σ.now R), updN σ.F (σ.pl R) (Sk.add (if σ.num (σ.pl R) = σ.now R then σ.F (σ.pl R) else fun _ _ => 0) R.P R.k s c)⟩ from rfl)
  obtain ⟨nw, hnw⟩ : ∃ nw, nw = σ.now R := ⟨_, rfl⟩
  obtain ⟨i, hi⟩ : ∃ i, i = σ.pl R := ⟨_, rfl⟩
  rw [← hnw, ← hi] at hpl HA
  rw [← hi] at kp
  rw [← hnw] at hnow CN
  have em : nw.tmod (R.n : Int) = (i : Int) := by rw [Int.tmod_eq_emod_of_nonneg hnow.1]; exact hpl.2
  have hn0 : ¬ (R.n : Int) = 0 := by omega
  have hn1 : ¬ R.n = 0 := by omega
  have t1 : (i : Int) < (R.n : Int) := by omega
  have t2 : (R.n : Int) ≤ 65 := by omega
  have HI := Lib.hid (And.intro hpl.1 hnow)
  have FR := Lib.hid (show Fr R.F w w from Fr.refl _ _)
  clear h hs hc hn hnow hpl hnw hi
  go_enter Try.func17, Try.ntmps17
  go_upto_region 2 with (go_at_call 20; ((with_reducible refine CN.out.mono ?_); rintro e w1 ⟨rfl, rfl⟩))
  go_quiet (fail)
  have BD := Lib.hid (show Below w.heap.size w (w.drewN nq) from below_draws (Below.refl _ _) nq)
  generalize w.drewN nq = w2 at BD ⊢
  have H2 := Lib.hid (HH.out.keep BD.out)
  clear k kp em hn0 hn1
  obtain ⟨kp0, kp1⟩ := H2.out.part HI.out.1
  by_cases hnum : σ.num i = nw
  · have HE := Lib.hid hnum
    have CA := Lib.hid (fun wx (hx : SlAt wx (R.SN i) (σ.F i)) => show Calls Try.prog 30 #[.pointer (some ⟨R.bs i, 0, none⟩), .string s, .int .i64 c] wx (fun e w' => e = .returned (.tuple #[]) ∧ SlAt w' (R.SN i) (Sk.add (σ.F i) R.P R.k s c) ∧ Fr (fun b => b = R.gs i) wx w') from sadd_any s HS.out.1 c HS.out.2 wx hx)
    have t3 : (σ.num i != nw) = false := by simpa using hnum
    clear hnum
    go_wp2_with (go_at_call 30; ((with_reducible refine (CA.out _ (H2.out.hs i HI.out.1)).mono ?_); rintro e w4 ⟨rfl, s4, f4⟩; have S4 := Lib.hid s4; have F4 := Lib.hid f4; clear s4 f4))
    go_end0
    rw [HA.out, if_pos HE.out]
    have h4 := H2.out.putF HI.out.1 S4.out F4.out
    have e : updN σ.num i nw = σ.num := by funext j; unfold updN; split; (rename_i hj; rw [hj, HE.out]); rfl
    rw [e]
    exact ⟨rfl, h4, (Fr.of_below BD.out).trans (F4.out.mono (fun b hb => Or.inr (Or.inr ⟨i, HI.out.1, hb⟩)))⟩
  · have HE := Lib.hid hnum
    have CC := Lib.hid (fun wx (hx : SlAt wx (R.SN i) (σ.F i)) => show Calls Try.prog 29 #[.pointer (some ⟨R.bs i, 0, none⟩)] wx (fun e w' => e = .returned (.tuple #[]) ∧ SlAt w' (R.SN i) (fun _ _ => 0) ∧ Fr (fun b => b = R.gs i) wx w') from sclear_any wx hx)
    have CA := Lib.hid (fun wx (hx : SlAt wx (R.SN i) (fun _ _ => 0)) => show Calls Try.prog 30 #[.pointer (some ⟨R.bs i, 0, none⟩), .string s, .int .i64 c] wx (fun e w' => e = .returned (.tuple #[]) ∧ SlAt w' (R.SN i) (Sk.add (fun _ _ => 0) R.P R.k s c) ∧ Fr (fun b => b = R.gs i) wx w') from sadd_any s HS.out.1 c HS.out.2 wx hx)
    have t3 : (σ.num i != nw) = true := by simpa using hnum
    clear hnum
    go_upto_region 5 with (go_at_call 29; ((with_reducible refine (CC.out _ (H2.out.hs i HI.out.1)).mono ?_); rintro e w3 ⟨rfl, s3, f3⟩; have H3 := Lib.hid (H2.out.putF HI.out.1 s3 f3); have F3 := Lib.hid f3; clear s3 f3))
    clear kp0 kp1
    obtain ⟨kp0, kp1⟩ := H3.out.part HI.out.1
    have kw := H3.out.hp.wr
    go_upto_region 6 with (fail)
    rw [show w3.setCell ⟨R.pb, i * 2, none⟩ (.int .i64 nw) = setObj w3 R.pb (.cells (rws encPt (ptL R (updN σ.num i nw))).toArray 61 (0, 0)) from by
      have := rws_store_one (v := .int .i64 nw) encPt_len H3.out.hp (ptL_get R σ.num HI.out.1) (j := 0) (a' := (nw, R.bs i)) rfl (by omega)
      rw [ptL_set R σ.num HI.out.1] at this
      exact this]
    have H4 := Lib.hid (H3.out.putN HI.out.1 HI.out.2)
    have F4 := Lib.hid (F3.out.mono (fun b hb => (Or.inr (Or.inr ⟨i, HI.out.1, hb⟩) : R.F b)) |>.trans (Fr.setObj (F := R.F) (Fr.refl _ w3) (Or.inr (Or.inl rfl)) (.cells (rws encPt (ptL R (updN σ.num i nw))).toArray 61 (0, 0))))
    clear kp0 kp1 kw
    generalize setObj w3 R.pb (.cells (rws encPt (ptL R (updN σ.num i nw))).toArray 61 (0, 0)) = w5 at H4 F4 ⊢
    obtain ⟨kp0, kp1⟩ := H4.out.part HI.out.1
    have hs5 := H4.out.hs i HI.out.1
    have e0 : updN σ.F i (fun _ _ => 0) i = fun _ _ => 0 := updN_self _ _ _
    have HS5 := Lib.hid (show SlAt w5 (R.SN i) (fun _ _ => 0) from by have := hs5; simp only [e0] at this; exact this)
    clear hs5 e0
    go_wp2_with (go_at_call 30; ((with_reducible refine (CA.out _ HS5.out).mono ?_); rintro e w6 ⟨rfl, s6, f6⟩; have S6 := Lib.hid s6; have F6 := Lib.hid f6; clear s6 f6))
    go_end0
    rw [HA.out, if_neg HE.out]
    have h6 := H4.out.putF HI.out.1 S6.out F6.out
    have e : updN (updN σ.F i fun _ _ => 0) i (Sk.add (fun _ _ => 0) R.P R.k s c) = updN σ.F i (Sk.add (fun _ _ => 0) R.P R.k s c) := by funext j; unfold updN; split <;> rfl
    refine ⟨rfl, ?_, ((Fr.of_below BD.out).trans F4.out).trans (F6.out.mono (fun b hb => Or.inr (Or.inr ⟨i, HI.out.1, hb⟩)))⟩
    have h7 := h6
    simp only at h7
    rw [← e]
    exact h7
end
end Go.Proofs.Ythfaeapodfgldaa
