/- The contracts of layer 15 (outbuf): Take. -/
import Derived.Test.YtaghookljjpllaaBo
namespace Go.Proofs.Ytaghookljjpllaa
set_option linter.unusedSimpArgs false
set_option linter.unusedVariables false
open Go.ChangeShapes Go.WideShapes Go.ChangeAt Go.RowKit
/-- what Take leaves. -/
def Took (w : World) (b g size : Nat) (q : List Int) (m : Nat) (e : Ending) (w' : World) : Prop :=
  ∃ s, e = .returned (.slice (some ⟨s, 0, none⟩) m m) ∧ Blk w' s 5 (obbyC (q.take m)) ∧ BufAt w' b g size (q.drop m) ∧ Fr (fun k => k = b ∨ k = g) w w' ∧ w.heap.size ≤ s ∧ s ≠ b ∧ s ≠ g
theorem obrem_self (a s : Nat) (hs : 0 < s) : ((a : Int)) % (s : Int) = ((a % s : Nat) : Int) := rfl
set_option maxRecDepth 100000 in
set_option maxHeartbeats 2000000 in
theorem obtake_m (b g size : Nat) (q : List Int) (n : Int) (m : Nat) (w : World) (h : BufAt w b g size q) (hm : 1 ≤ m ∧ m ≤ q.length) (hn : n = (m : Int) ∨ (q.length : Int) < n ∧ m = q.length) :
    Calls Try.prog 29 #[.pointer (some ⟨b, 0, none⟩), .int .i64 n] w (Took w b g size q m) := by
  have hle := h.le
  have c1 := oblen_any b g size q w h
  obtain ⟨i0, hi, hz0, hz1, hz2⟩ := info_parts obinfo5
  have hmk := make_bytes (P := Try.prog) (t := 27) (e := 5) Try.underlying27 hi hz0 hz1 hz2 m (by omega)
  clear hi hz0 hz1 hz2
  have hcase : (((q.length : Int) < n) = False ∧ (0 < n) = True ∧ n = (m : Int)) ∨ (((q.length : Int) < n) = True ∧ q.length = m) := by
    rcases hn with rfl | ⟨h1, h2⟩
    · exact Or.inl ⟨eq_false (by omega), eq_true (by omega), rfl⟩
    · exact Or.inr ⟨eq_true h1, h2.symm⟩
  have HLE := Lib.hid hle
  have HM := Lib.hid hm
  have HB := Lib.hid h
  have hmi : (m : Int) ≤ 65536 := by omega
  have hm0 : (0 : Int) < (m : Int) := by omega
  have hm1 : 0 < m := by omega
  rcases hcase with ⟨t1, t2, rfl⟩ | ⟨t1, t2⟩
  all_goals
    obtain ⟨ql, hql⟩ : ∃ ql, ql = q.length := ⟨_, rfl⟩
    rw [← hql] at c1 t1
    first | (have t3 : m = ql := (hql.trans t2).symm; subst t3; clear t2) | skip
    have C1 := Lib.hid c1
    have HQ := Lib.hid hql
    clear c1 h hle hm hn hql
    go_enter Try.func29, Try.ntmps29
    go_wp2_with (go_at_call 31; ((with_reducible refine C1.out.mono ?_); rintro e w1 ⟨rfl, rfl⟩))
    obtain ⟨wy, ey, ns, by_, sy⟩ := box_new w (noughts m) 5
    rw [ey]
    have HS := Lib.hid (show w.heap.size ≤ w.heap.size from Nat.le_refl _)
    have NB := Lib.hid (show w.heap.size ≠ b ∧ w.heap.size ≠ g by have := HB.out.lt; omega)
    generalize hsw : w.heap.size = s at HS NB ns ⊢
    have HSW := Lib.hid hsw
    have HY := Lib.hid (And.intro ns (HB.out.keep by_))
    have FY := Lib.hid (Fr.of_below (F := fun k => (k = b ∨ k = g) ∨ k = s) by_)
    clear ey ns by_ sy hsw
    go_loopg [16] m (fun k si wr => ∃ i : Nat, i ≤ m ∧ k = m - i ∧ si = .int .i64 (i : Int) ∧ BufAt wr b g size (q.drop i) ∧ Blk wr s 5 (obbyC (q.take i ++ List.replicate (m - i) 0)) ∧ Fr (fun k => (k = b ∨ k = g) ∨ k = s) wy wr)
    case atStart => exact ⟨0, by omega, by omega, rfl, HY.out.2, HY.out.1, Fr.refl _ _⟩
    case round =>
      obtain ⟨i, hi, hkk, rfl, hb, hbl, hf⟩ := hrel
      have HK := Lib.hid hkk
      have HF := Lib.hid hf
      clear hkk hf
      by_cases hin : i < m
      · have hiq : i < q.length := by have := HM.out; omega
        obtain ⟨cz, hcz⟩ : ∃ cz, cz = q[i] := ⟨_, rfl⟩
        have hdrop : q.drop i = cz :: q.drop (i + 1) := by rw [hcz]; exact List.drop_eq_getElem_cons hiq
        obtain ⟨first, arr, h1, h2, h3, h4, h5⟩ := hb
        rw [hdrop] at h1 h3
        obtain ⟨hc0, h3'⟩ := ring_take h3
        obtain ⟨ml, hml⟩ : ∃ ml, ml = (q.drop (i + 1)).length := ⟨_, rfl⟩
        have hl1 : (cz :: q.drop (i + 1)).length = ml + 1 := by rw [List.length_cons, hml]
        rw [hl1] at h1
        have hla : arr.length = size := h3.1
        have hfs : first < size := h3.2.1
        obtain ⟨fx, hfx⟩ : ∃ fx, fx = (first + 1) % size := ⟨_, rfl⟩
        rw [← hfx] at h3'
        have hfxl : fx < size := by rw [hfx]; exact Nat.mod_lt _ (by omega)
        have e1 : IntKind.i64.wrap ((first : Int) + 1) = ((first + 1 : Nat) : Int) := by rw [IntKind.wrap_i64]; have := HLE.out; omega
        have e2 : (((first + 1 : Nat) : Int)).tmod (size : Int) = (fx : Int) := by rw [obrem_any _ _ (by omega), hfx]
        obtain ⟨fm, hfm⟩ : ∃ fm, fm = first + 1 := ⟨_, rfl⟩
        rw [← hfm] at e1 e2
        have e3 : (fm : Int) % (size : Int) = (fx : Int) := by rw [hfm, hfx]; rfl
        have e4 : IntKind.i64.wrap (fx : Int) = (fx : Int) := by rw [IntKind.wrap_i64]; have := HLE.out; omega
        have hs0 : ¬ (size : Int) = 0 := by omega
        have hs1 : ¬ size = 0 := by omega
        have g1 : (0 : Int) ≤ (first : Int) := by omega
        have g2 : (first : Int) < (size : Int) := by omega
        have g3 : (0 : Int) ≤ (i : Int) := by omega
        have g4 : (i : Int) < (m : Int) := by omega
        have g5 : (size : Int) ≤ 65536 := by have := HLE.out; omega
        have g6 : ((ml : Int)) ≤ 65536 := by have := HLE.out; rw [hml, List.length_drop]; omega
        have k1 : ∀ i, wr.drew.cell? ⟨b, i, none⟩ = _ := (Blk.drew h1).rd
        have k2 : wr.drew.cell? ⟨g, first, none⟩ = some (.int .u8 cz) := by
          rw [blk_cell (Blk.drew h2), ← hc0]; exact obbyC_get _ _ (by omega)
        have hnl : i < (q.take i ++ List.replicate (m - i) 0).length := by rw [List.length_append, List.length_take, List.length_replicate]; omega
        have k4 : wr.drew.cell? ⟨s, i, none⟩ = some (.int .u8 ((q.take i ++ List.replicate (m - i) 0).getD i 0)) := by
          rw [blk_cell (Blk.drew hbl)]; exact obbyC_get _ _ hnl
        have k3 : ∀ i, wr.drew.frozen? ⟨s, i, none⟩ = false := (Blk.drew hbl).wr
        have NE := Lib.hid h4
        have H1 := Lib.hid h1
        have H2 := Lib.hid h2
        have H4 := Lib.hid hbl
        have HP := Lib.hid h3'
        have HX := Lib.hid (show (q.take i ++ List.replicate (m - i) 0).set i cz = q.take (i + 1) ++ List.replicate (m - (i + 1)) 0 by
          rw [hcz]; exact obset_fill q i m hin hiq)
        have HML := Lib.hid hml
        clear h1 h2 h3 h3' h4 hfx hfm hla hcz hml hbl hdrop hc0 hl1 hfs hfxl hiq hnl
        go_upto_region 6 with (fail)
        go_region_held3 (fun w' => (∀ i, w'.cell? ⟨b, i, none⟩ = (bufC g size first (ml + 1))[i]?) ∧ w'.cell? ⟨g, first, none⟩ = some (.int .u8 cz)) (first | (refine ⟨?_, ?_⟩ <;> assumption) | (exact ⟨fun j => (set_far wr _ (Ne.symm NB.out.1)).trans (k1 j), (set_far wr _ (Ne.symm NB.out.2)).trans k2⟩))
          (fail)
        have so := setCell_obj (i := i) H4.out (.int .u8 cz)
        rw [so]
        have hlt4 := lt_of_block H4.out
        have x1 : Blk (setObj wr s (.cells ((obbyC (q.take i ++ List.replicate (m - i) 0)).setIfInBounds i (.int .u8 cz)) 5 (0, 0))).drew b _ _ := (setObj_other wr (Ne.symm NB.out.1) _).trans H1.out
        have x2 : Blk (setObj wr s (.cells ((obbyC (q.take i ++ List.replicate (m - i) 0)).setIfInBounds i (.int .u8 cz)) 5 (0, 0))).drew g _ _ := (setObj_other wr (Ne.symm NB.out.2) _).trans H2.out
        have x4 : Blk (setObj wr s (.cells ((obbyC (q.take i ++ List.replicate (m - i) 0)).setIfInBounds i (.int .u8 cz)) 5 (0, 0))).drew s _ _ := setObj_at hlt4 _
        have x3 : Fr (fun k => (k = b ∨ k = g) ∨ k = s) wr (setObj wr s (.cells ((obbyC (q.take i ++ List.replicate (m - i) 0)).setIfInBounds i (.int .u8 cz)) 5 (0, 0))).drew := (Fr.setObj (F := fun k => (k = b ∨ k = g) ∨ k = s) (Fr.refl _ _) (Or.inr rfl) _).drew
        have eb : (obbyC (q.take i ++ List.replicate (m - i) 0)).setIfInBounds i (.int .u8 cz) = obbyC (q.take (i + 1) ++ List.replicate (m - (i + 1)) 0) := by rw [← HX.out]; unfold obbyC; simp only [List.map_set, List.setIfInBounds_toArray]
        clear so k1 k2 k3 k4
        generalize (setObj wr s (.cells ((obbyC (q.take i ++ List.replicate (m - i) 0)).setIfInBounds i (.int .u8 cz)) 5 (0, 0))).drew = wx at x1 x2 x3 x4 ⊢
        rw [eb] at x4
        have k1 := x1.rd
        have k2 := x1.wr
        have X1 := Lib.hid x1
        have X2 := Lib.hid x2
        have X3 := Lib.hid x3
        have X4 := Lib.hid x4
        clear x1 x2 x3 x4 eb
        go_upto_region 7 with (fail)
        go_still_tail 14, (by kernel_rfl)
        change wpList _ _ _ _ _ wx.drew
        go_upto_region 8 with (fail)
        have hltb := lt_of_block X1.out
        rw [setCell_obj X1.out]
        have z1 : Blk (setObj wx b (.cells ((bufC g size first (ml + 1)).setIfInBounds 1 (.int .i64 (fx : Int))) 75 (0, 0))).drew b 75 (bufC g size fx (ml + 1)) := setObj_at hltb _
        have z2 : Blk (setObj wx b (.cells ((bufC g size first (ml + 1)).setIfInBounds 1 (.int .i64 (fx : Int))) 75 (0, 0))).drew g _ _ := (setObj_other wx (Ne.symm NE.out) _).trans X2.out
        have z4 : Blk (setObj wx b (.cells ((bufC g size first (ml + 1)).setIfInBounds 1 (.int .i64 (fx : Int))) 75 (0, 0))).drew s _ _ := (setObj_other wx NB.out.1 _).trans X4.out
        have z3 : Fr (fun k => (k = b ∨ k = g) ∨ k = s) wx (setObj wx b (.cells ((bufC g size first (ml + 1)).setIfInBounds 1 (.int .i64 (fx : Int))) 75 (0, 0))).drew := (Fr.setObj (F := fun k => (k = b ∨ k = g) ∨ k = s) (Fr.refl _ _) (Or.inl (Or.inl rfl)) _).drew
        clear k1 k2
        generalize (setObj wx b (.cells ((bufC g size first (ml + 1)).setIfInBounds 1 (.int .i64 (fx : Int))) 75 (0, 0))).drew = wz at z1 z2 z3 z4 ⊢
        have k1 := z1.rd
        have k2 := z1.wr
        have Z1 := Lib.hid z1
        have Z2 := Lib.hid z2
        have Z3 := Lib.hid z3
        have Z4 := Lib.hid z4
        clear z1 z2 z3 z4
        go_wp2
        go_roundg (m - (i + 1))
        case measure => have := HK.out; omega
        case rel =>
          have hlb := lt_of_block Z1.out
          rw [setCell_obj Z1.out]
          refine ⟨i + 1, by omega, by omega, by go_num, ⟨fx, arr, ?_, (setObj_other wz (Ne.symm NE.out) _).trans Z2.out, HP.out, NE.out, h5⟩, (setObj_other wz NB.out.1 _).trans Z4.out, HF.out.trans (X3.out.trans (Z3.out.trans (Fr.setObj (F := fun k => (k = b ∨ k = g) ∨ k = s) (Fr.refl _ _) (Or.inl (Or.inl rfl)) _)))⟩
          have := setObj_at hlb (.cells ((bufC g size fx (ml + 1)).setIfInBounds 2 (.int .i64 (ml : Int))) 75 (0, 0))
          rw [← HML.out]
          first | exact this | simpa using this
      · have hie : i = m := by omega
        subst hie
        go_wp2
        go_ret
        rw [Nat.sub_self, List.replicate_zero, List.append_nil] at hbl
        exact ⟨s, rfl, hbl, hb, Fr.drop_new (FY.out.trans HF.out) (by rw [HSW.out]; exact Nat.le_refl _), by rw [HSW.out]; exact Nat.le_refl _, NB.out.1, NB.out.2⟩

set_option maxHeartbeats 1000000 in
theorem obtake_0 (b g size : Nat) (q : List Int) (n : Int) (w : World) (h : BufAt w b g size q) (hn : n ≤ 0 ∨ q = []) :
    Calls Try.prog 29 #[.pointer (some ⟨b, 0, none⟩), .int .i64 n] w (Took w b g size q 0) := by
  have hle := h.le
  have c1 := oblen_any b g size q w h
  obtain ⟨i0, hi, hz0, hz1, hz2⟩ := info_parts obinfo5
  have hmk : ∀ w, (Instr.makeSlice 27 (.int .i64 0) (.int .i64 0)).run Try.prog w = .ok (.slice (some ⟨w.heap.size, 0, none⟩) 0 0) (w.alloc (.cells (noughts 0) 5)) := make_bytes (P := Try.prog) (t := 27) (e := 5) Try.underlying27 hi hz0 hz1 hz2 0 (by omega)
  clear hi hz0 hz1 hz2
  have HB := Lib.hid h
  have fin : ∀ w' s, w.heap.size = s → w' = w.alloc (.cells (noughts 0) 5) → Took w b g size q 0 (.returned (.slice (some ⟨s, 0, none⟩) 0 0)) w' := by
    rintro w' s rfl rfl
    have := HB.out.lt
    exact ⟨_, rfl, heap_alloc_new w _, HB.out.keep ((Below.refl _ _).alloc (Nat.le_refl _) _), Fr.of_below ((Below.refl _ _).alloc (Nat.le_refl _) _), Nat.le_refl _, by omega, by omega⟩
  have FIN := Lib.hid fin
  have hcase : (((q.length : Int) < n) = False ∧ (0 < n) = False) ∨ (((q.length : Int) < n) = True ∧ q.length = 0) := by
    rcases hn with h1 | rfl
    · exact Or.inl ⟨eq_false (by omega), eq_false (by omega)⟩
    · rcases Int.lt_or_le 0 n with h2 | h2
      · exact Or.inr ⟨eq_true (by simpa using h2), rfl⟩
      · exact Or.inl ⟨eq_false (by simp; omega), eq_false (by omega)⟩
  obtain ⟨ql, hql⟩ : ∃ ql, ql = q.length := ⟨_, rfl⟩
  rw [← hql] at c1 hcase
  clear h hn hle fin hql
  rcases hcase with ⟨t1, t2⟩ | ⟨t1, rfl⟩
  · have C1 := Lib.hid c1
    clear c1
    go_enter Try.func29, Try.ntmps29
    go_wp2_with (go_at_call 31; ((with_reducible refine C1.out.mono ?_); rintro e w1 ⟨rfl, rfl⟩))
    refine wp_loop_rounds 1 ?_
    rw [rounds_succ]
    go_wp2
    go_ret
    exact FIN.out _ _ rfl rfl
  · have t1' : ((0 : Int) < n) = True := t1
    have c1' : Calls Try.prog 31 #[.pointer (some ⟨b, 0, none⟩)] w fun e w' => e = .returned (.int .i64 0) ∧ w = w' := c1
    have C1 := Lib.hid c1'
    clear c1 t1 c1'
    go_enter Try.func29, Try.ntmps29
    go_wp2_with (go_at_call 31; ((with_reducible refine C1.out.mono ?_); rintro e w1 ⟨rfl, rfl⟩))
    refine wp_loop_rounds 1 ?_
    rw [rounds_succ]
    go_wp2
    go_ret
    exact FIN.out _ _ rfl rfl
theorem obtake_any (b g size : Nat) (q : List Int) (n : Int) (m : Nat) (w : World) (h : BufAt w b g size q) (hm : (m : Int) = max 0 (min n (q.length : Int))) :
    Calls Try.prog 29 #[.pointer (some ⟨b, 0, none⟩), .int .i64 n] w (Took w b g size q m) := by
  rcases Nat.eq_zero_or_pos m with h0 | h0
  · subst h0
    refine obtake_0 b g size q n w h ?_
    rcases Int.lt_or_le 0 n with h1 | h1
    · exact Or.inr (List.length_eq_zero_iff.1 (by omega))
    · exact Or.inl h1
  · exact obtake_m b g size q n m w h (by omega) (by omega)
set_option maxHeartbeats 1000000 in
theorem obtake_nil (n : Int) (hn : 0 < n) (w : World) : Calls Try.prog 29 #[.pointer none, .int .i64 n] w fun e w' => (∃ s, e = .returned (.slice (some ⟨s, 0, none⟩) 0 0)) ∧ Below w.heap.size w w' := by
  obtain ⟨i0, hi, hz0, hz1, hz2⟩ := info_parts obinfo5
  have hmk : ∀ w, (Instr.makeSlice 27 (.int .i64 0) (.int .i64 0)).run Try.prog w = .ok (.slice (some ⟨w.heap.size, 0, none⟩) 0 0) (w.alloc (.cells (noughts 0) 5)) := make_bytes (P := Try.prog) (t := 27) (e := 5) Try.underlying27 hi hz0 hz1 hz2 0 (by omega)
  clear hi hz0 hz1 hz2
  have t1 : ((0 : Int) < n) = True := eq_true hn
  clear hn
  go_enter Try.func29, Try.ntmps29
  go_wp2_with (go_at_call 31; ((with_reducible refine (oblen_nil _).mono ?_); rintro e w1 ⟨rfl, rfl⟩))
  refine wp_loop_rounds 1 ?_
  rw [rounds_succ]
  go_wp2
  go_ret
  exact ⟨⟨_, rfl⟩, (Below.refl _ _).alloc (Nat.le_refl _) _⟩
end Go.Proofs.Ytaghookljjpllaa
