/- The laws of layer 17 (config), walked: the order of rules. -/
import Derived.Test.YtfpknklnbgmflaaCfK
import Derived.Test.YtfpknklnbgmflaaCfL
import Derived.Test.YtfpknklnbgmflaaConf
import Derived.Test.YtfpknklnbgmflaaPhase
import Derived.Deep.AppendLies
namespace Go.Proofs.Ytfpknklnbgmflaa
set_option linter.unusedSimpArgs false
set_option linter.unusedVariables false
open Go.ChangeShapes Go.WideShapes Go.ChangeAt Go.RowKit
open Ar (inR)
abbrev coC (Bu Co Ou : Int) (v : Value) : Array Value := #[.int .i64 Bu, .int .i64 Co, .int .i64 Ou, v]
theorem sumB_app : ∀ (l m : List RuZ), sumB (l ++ m) = sumB l + sumB m
  | [], m => by simp [sumB]
  | a :: l, m => by rw [List.cons_append, sumB, sumB, sumB_app l m]; omega
theorem sumB_rev : ∀ (l : List RuZ), sumB l.reverse = sumB l
  | [] => rfl
  | a :: l => by rw [List.reverse_cons, sumB_app, sumB_rev l]; simp only [sumB]; omega
theorem mostZ_rev (l : List RuZ) : mostZ l.reverse = mostZ l := by
  by_cases h : 0 < l.length
  · have h' : 0 < l.reverse.length := by rw [List.length_reverse]; exact h
    refine Int.le_antisymm ?_ ?_
    · rw [most_le h']
      have := (most_le h (mostZ l)).1 (Int.le_refl _)
      exact ⟨this.1, fun r hr => this.2 r (List.mem_reverse.1 hr)⟩
    · rw [most_le h]
      have := (most_le h' (mostZ l.reverse)).1 (Int.le_refl _)
      exact ⟨this.1, fun r hr => this.2 r (List.mem_reverse.2 hr)⟩
  · have : l = [] := List.length_eq_zero_iff.1 (by omega)
    rw [this]; rfl
theorem rightZ_rev (Bu Co Ou : Int) (l : List RuZ) : rightZ Bu Co Ou l.reverse ↔ rightZ Bu Co Ou l := by
  unfold rightZ
  rw [mostZ_rev, sumB_rev, List.length_reverse]
  simp only [List.mem_reverse]
def cells9 : List RuZ → List Value
  | [] => []
  | x :: r => x.c.toList ++ cells9 r
theorem c_size (r : RuZ) : r.c.toList.length = 9 := rfl
theorem cells9_length : ∀ l, (cells9 l).length = l.length * 9
  | [] => rfl
  | x :: r => by rw [cells9, List.length_append, cells9_length r, List.length_cons, c_size]; omega
theorem cells9_app : ∀ l m, cells9 (l ++ m) = cells9 l ++ cells9 m
  | [], _ => rfl
  | x :: r, m => by rw [List.cons_append, cells9, cells9, cells9_app r m, List.append_assoc]
theorem cells9_at : ∀ (l : List RuZ) (j : Nat) (h : j < l.length) (i : Nat), i < 9 → (cells9 l)[j * 9 + i]? = (l[j]).c[i]?
  | x :: r, 0, _, i, hi => by
    rw [Nat.zero_mul, Nat.zero_add, cells9, List.getElem?_append_left (by rw [c_size]; exact hi)]
    exact Array.getElem?_toList
  | x :: r, j + 1, h, i, hi => by
    have := cells9_at r j (by simpa using h) i hi
    rw [cells9, List.getElem?_append_right (by rw [c_size]; omega), c_size]
    rw [show (j + 1) * 9 + i - 9 = j * 9 + i by omega, this]
    rfl
theorem infoRule : (Try.prog.info? 23).map (fun i => (i.zero, i.size, i.bytes)) = some (some (.agg (ruC 0 0 0 0 0 0 0 0 false)), 9, 72) := by kernel_rfl
theorem owns_fr9 {w w' : World} {F : Nat → Prop} {base sz n : Nat} {e : TypeId} {v : Value} {xs : List Value} (h : w.ownsRow base e sz v n xs) (hf : Fr F w w') (hF : ∀ g, v.ownBlock = some g → ¬ F g) : w'.ownsRow base e sz v n xs := by
  refine ⟨h.1, ?_⟩
  rcases h.2 with h0 | ⟨g, cap, cur, hv, hb, hg, hr⟩
  · exact .inl h0
  · exact .inr ⟨g, cap, cur, hv, hb, (hf.block g (lt_of_block hg) (hF g (by rw [hv]; rfl))).trans hg, hr⟩
theorem owns_typ {w : World} {base sz n : Nat} {e : TypeId} {v : Value} {xs : List Value} (h : w.ownsRow base e sz v n xs) : ∀ g, v.ownBlock = some g → base ≤ g ∧ g < w.heap.size ∧ ∃ c f, w.heap[g]? = some (.cells c e f) := by
  intro g hg
  rcases h.2 with ⟨rfl, _⟩ | ⟨g', cap, cur, rfl, hb, hh, _⟩
  · cases hg
  · have : g' = g := by simpa [Value.ownBlock] using hg
    subst this
    exact ⟨hb, lt_of_block hh, cur, _, hh⟩
theorem fr_row9 {w w' : World} {row : Option Nat} (hg : w.grownBy w' row) : Fr (fun k => row = some k) w w' := ⟨hg.os, hg.tape, hg.output, hg.size, fun k hk hF => hg.block k hk (fun e => hF e.symm)⟩
theorem ru_at {w : World} {base n : Nat} {v : Value} {rs : List RuZ} (h : w.ownsRow base 23 9 v n (cells9 rs)) (hok : ∀ r ∈ rs, r.ok) : ∃ A cap, v = .slice A n cap ∧ RdRu w A n cap rs := by
  have hl : rs.length = n := by have := h.1; rw [cells9_length] at this; omega
  rcases h.2 with ⟨rfl, h0⟩ | ⟨g, cap, cur, hv, hb, hg, hnc, hcm, hcs, htake⟩
  · exact ⟨none, 0, by rw [h0], by omega, by unfold maxLen; omega, hl, fun h => absurd h (by omega), hok⟩
  · refine ⟨some ⟨g, 0, none⟩, cap, hv, hnc, hcm, hl, fun h0 => ⟨g, 0, rfl, lt_of_block hg, fun j hj i hi => ?_⟩, hok⟩
    subst hv
    rw [← cells9_at rs j hj i hi, Nat.zero_add]
    exact h.cellAt _ (by omega)
theorem four_set {w : World} {b : Nat} {t : TypeId} {c : Array Value} {v : Value} (h : Blk w b t c) : w.setCell ⟨b, 3, none⟩ v = setObj w b (.cells (c.setIfInBounds 3 v) t (0, 0)) := setCell_obj h v
set_option maxHeartbeats 16000000 in
set_option maxRecDepth 100000 in
theorem order_law (w : World) (Bu Co Ou : Int) (A : Option Addr) (n c : Nat) (rs : List RuZ) (_hb3 : i64In Bu ∧ i64In Co ∧ i64In Ou) (hr : RdRu w A n c rs) :
    Calls Try.prog 8 #[.agg (coC Bu Co Ou (.slice A n c))] w fun e w' => e = .returned (.bool true) ∧ Below w.heap.size w w' := by
  have hcp := hr.cap
  have hmx := hr.max
  unfold maxLen at hmx
  have HR := Lib.hid hr
  have HLEN := Lib.hid hr.len
  clear hr
  obtain ⟨v, hv⟩ : ∃ v : Bool, v = true ↔ rightZ Bu Co Ou rs := by
    by_cases h : rightZ Bu Co Ou rs
    · exact ⟨true, fun _ => h, fun _ => rfl⟩
    · exact ⟨false, fun e => absurd e (by simp), fun e => absurd e h⟩
  have HV := Lib.hid hv
  clear hv
  go_enter Try.func8, Try.ntmps8
  go_upto_region 1 with (fail)
  obtain ⟨w1, hw1, hbk, hbl, hsz⟩ := box_new w (coC Bu Co Ou (.slice A n c)) 29
  change Code.wp _ _ _ _ (w.alloc (.cells (coC Bu Co Ou (.slice A n c)) 29))
  rw [hw1]
  obtain ⟨b1, hb1⟩ : ∃ b1, b1 = w.heap.size := ⟨_, rfl⟩
  rw [← hb1] at hbk ⊢
  have HB1 := Lib.hid hb1
  have P1 := Lib.hid hbk
  have BL1 := Lib.hid hbl
  clear hbk hbl hsz hw1 hb1
  go_upto_region 3 with (go_at_call 9; ((with_reducible refine (fit_any _).mono ?_); rintro e w2 ⟨rfl, b2⟩; have P2 := Lib.hid (P1.out.keep b2); have BL2 := Lib.hid (BL1.out.trans (b2.mono BL1.out.size)); clear b2))
  have k2 := P2.out.rd
  by_cases hn : (100 : Int) < (n : Int)
  · have dn : decide ((100 : Int) < (n : Int)) = true := decide_eq_true hn
    go_wp2
    go_ret
    exact ⟨rfl, BL2.out⟩
  have dn : decide ((100 : Int) < (n : Int)) = false := decide_eq_false hn
  have HN := Lib.hid (show n ≤ 100 from by omega)
  go_upto_region 6 with (fail)
  obtain ⟨w3, hw3, hbk, hbl, hsz⟩ := box_new w2 (coC Bu Co Ou (.slice A n c)) 29
  change Code.wp _ _ _ _ (w2.alloc (.cells (coC Bu Co Ou (.slice A n c)) 29))
  rw [hw3]
  obtain ⟨b3, hb3⟩ : ∃ b3, b3 = w2.heap.size := ⟨_, rfl⟩
  rw [← hb3] at hbk ⊢
  have NE := Lib.hid (show b1 < b3 from by rw [hb3]; exact lt_of_block P2.out)
  have D3 := Lib.hid hbk
  have P3 := Lib.hid (P2.out.keep hbl)
  have BL3 := Lib.hid (BL2.out.trans (hbl.mono BL2.out.size))
  have kd := hbk.rd
  have kdw := hbk.wr
  clear hw3 hbk hbl hsz hb3 k2
  go_upto_region 7 with (fail)
  have D4 := Lib.hid (show Blk (w3.setCell ⟨b3, 3, none⟩ (.slice none 0 0)) b3 29 (coC Bu Co Ou (.slice none 0 0)) from by rw [setCell_obj D3.out]; exact setObj_at (lt_of_block D3.out) _)
  have FR4 := Lib.hid (show Fr (fun k => k = b3) w3 (w3.setCell ⟨b3, 3, none⟩ (.slice none 0 0)) from by rw [setCell_obj D3.out]; exact Fr.setObj (F := fun k => k = b3) (Fr.refl _ _) rfl _)
  obtain ⟨w4, hw4⟩ : ∃ w4, w4 = (w3.setCell ⟨b3, 3, none⟩ (.slice none 0 0)) := ⟨_, rfl⟩
  rw [← hw4] at D4 FR4 ⊢
  have P4 := Lib.hid (P3.out.fr FR4.out (by have := NE.out; omega))
  have BL4 := Lib.hid (BL3.out.trans (FR4.out.below BL3.out.size (fun k hk => by have h1 := NE.out; have h2 := HB1.out; omega)))
  clear hw4 kd kdw
  have k4 := P4.out.rd
  go_upto_region 8 with (fail)
  clear k4
  go_loopg [16] n (fun kx s16 wr => ∃ (i : Nat) (dv : Value), i ≤ n ∧ kx = n - i ∧ s16 = .int .i64 (i : Int) ∧ Blk wr b1 29 (coC Bu Co Ou (.slice A n c)) ∧ Blk wr b3 29 (coC Bu Co Ou dv) ∧ wr.ownsRow w.heap.size 23 9 dv i (cells9 (rs.reverse.take i)) ∧ Below w.heap.size w wr)
  case atStart => exact ⟨0, .slice none 0 0, by omega, by omega, rfl, P4.out, D4.out, World.ownsRow_nil _ _ _ _, BL4.out⟩
  case round =>
    obtain ⟨i, dv, hi, hkx, rfl, hp, hd, hown, hb⟩ := hrel
    have HK := Lib.hid hkx
    have HP := Lib.hid hp
    have HD := Lib.hid hd
    have HO := Lib.hid hown
    have HB := Lib.hid hb
    clear hkx hp hd hown hb
    by_cases hin : i < n
    · have hir : i < rs.reverse.length := by rw [List.length_reverse, HLEN.out]; exact hin
      obtain ⟨N1, hN1⟩ : ∃ N1 : Nat, N1 = n - 1 := ⟨_, rfl⟩
      obtain ⟨K, hK⟩ : ∃ K : Nat, K = N1 - i := ⟨_, rfl⟩
      have eN1 : (n : Int) - 1 = (N1 : Int) := by omega
      have eK : (N1 : Int) - (i : Int) = (K : Int) := by omega
      have hKn : (K : Int) < (n : Int) := by omega
      have ewN : IntKind.i64.wrap (N1 : Int) = (N1 : Int) := by rw [IntKind.wrap_i64]; omega
      have ewK : IntKind.i64.wrap (K : Int) = (K : Int) := by rw [IntKind.wrap_i64]; omega
      have hKr : K < rs.length := by rw [HLEN.out]; omega
      have HNX := Lib.hid (show cells9 (rs.reverse.take (i + 1)) = cells9 (rs.reverse.take i) ++ (rs[K]).c.toList from by
        rw [List.take_succ_eq_append_getElem hir, cells9_app]
        congr 1
        have e : rs.reverse[i] = rs[K] := by
          rw [List.getElem_reverse]
          congr 1
          rw [hK, hN1, HLEN.out]
        rw [e]
        simp [cells9])
      obtain ⟨g, off, rfl, hlt, hc⟩ := (HR.out.below HB.out).at_ (by omega)
      have hcc := hc K hKr
      obtain ⟨r, hrr⟩ : ∃ r, r = rs[K] := ⟨_, rfl⟩
      rw [← hrr] at hcc HNX
      obtain ⟨L, W, B, Sl, Ce, Ro, Wi, Tr, sm⟩ := r
      have HCC := Lib.hid (fun (wx : World) (hx : Below w.heap.size wr wx) (hg : g < w.heap.size) => show wx.cell? ⟨g, off + K * 9, none⟩ = some (.int .i64 L) ∧ wx.cell? ⟨g, off + K * 9 + 1, none⟩ = some (.int .i64 W) ∧ wx.cell? ⟨g, off + K * 9 + 2, none⟩ = some (.int .i64 B) ∧ wx.cell? ⟨g, off + K * 9 + 3, none⟩ = some (.int .i64 Sl) ∧ wx.cell? ⟨g, off + K * 9 + 4, none⟩ = some (.int .i64 Ce) ∧ wx.cell? ⟨g, off + K * 9 + 5, none⟩ = some (.int .i64 Ro) ∧ wx.cell? ⟨g, off + K * 9 + 6, none⟩ = some (.int .i64 Wi) ∧ wx.cell? ⟨g, off + K * 9 + 7, none⟩ = some (.int .i64 Tr) ∧ wx.cell? ⟨g, off + K * 9 + 8, none⟩ = some (.bool sm) from
        ⟨(hx.cell (p := ⟨g, off + K * 9, none⟩) hg).trans (hcc 0 (by omega)), (hx.cell (p := ⟨g, off + K * 9 + 1, none⟩) hg).trans (hcc 1 (by omega)), (hx.cell (p := ⟨g, off + K * 9 + 2, none⟩) hg).trans (hcc 2 (by omega)), (hx.cell (p := ⟨g, off + K * 9 + 3, none⟩) hg).trans (hcc 3 (by omega)), (hx.cell (p := ⟨g, off + K * 9 + 4, none⟩) hg).trans (hcc 4 (by omega)), (hx.cell (p := ⟨g, off + K * 9 + 5, none⟩) hg).trans (hcc 5 (by omega)), (hx.cell (p := ⟨g, off + K * 9 + 6, none⟩) hg).trans (hcc 6 (by omega)), (hx.cell (p := ⟨g, off + K * 9 + 7, none⟩) hg).trans (hcc 7 (by omega)), (hx.cell (p := ⟨g, off + K * 9 + 8, none⟩) hg).trans (hcc 8 (by omega))⟩)
      have HG := Lib.hid (show g < w.heap.size from by
        obtain ⟨g', off', e', hlt', _⟩ := HR.out.at_ (by omega)
        injection e' with e'; injection e' with e1 e2
        rw [e1]; exact hlt')
      obtain ⟨i0, hi0, hz0, hz1, hz2⟩ := info_parts infoRule
      have SZ := Lib.hid (show w.heap.size ≤ wr.heap.size from HB.out.size)
      have kp := HP.out.rd
      clear hrr hcc hc hlt hN1 hK hKr hir
      go_upto_region 10 with (fail)
      clear kp
      have HP2 := Lib.hid (show Blk (wr.alloc (.cells (ruC L W B Sl Ce Ro Wi Tr sm) 23)).drew b1 29 (coC Bu Co Ou (.slice (some ⟨g, off, none⟩) n c)) from HP.out.alloc _)
      have HD2 := Lib.hid (show Blk (wr.alloc (.cells (ruC L W B Sl Ce Ro Wi Tr sm) 23)).drew b3 29 (coC Bu Co Ou dv) from HD.out.alloc _)
      have HO2 := Lib.hid (show (wr.alloc (.cells (ruC L W B Sl Ce Ro Wi Tr sm) 23)).drew.ownsRow w.heap.size 23 9 dv i (cells9 (rs.reverse.take i)) from HO.out.alloc _)
      have BR2 := Lib.hid (show Below w.heap.size wr (wr.alloc (.cells (ruC L W B Sl Ce Ro Wi Tr sm) 23)).drew from below_draws ((Below.refl _ _).alloc SZ.out _) 1)
      have NW := Lib.hid (show (wr.alloc (.cells (ruC L W B Sl Ce Ro Wi Tr sm) 23)).drew.heap[wr.heap.size]? = some (.cells (ruC L W B Sl Ce Ro Wi Tr sm) 23 (0, 0)) from heap_alloc_new wr _)
      have SZ2 := Lib.hid (show (wr.alloc (.cells (ruC L W B Sl Ce Ro Wi Tr sm) 23)).drew.heap.size = wr.heap.size + 1 from by show (wr.alloc _).heap.size = _; simp)
      refine Ph.start [15] (Ph.pick [(fun w' : World => (∀ j, w'.cell? ⟨b1, j, none⟩ = (coC Bu Co Ou (.slice (some ⟨g, off, none⟩) n c))[j]?) ∧ (∀ j, w'.cell? ⟨b3, j, none⟩ = (coC Bu Co Ou dv)[j]?) ∧ (w'.cell? ⟨g, off + K * 9, none⟩ = some (.int .i64 L) ∧ w'.cell? ⟨g, off + K * 9 + 1, none⟩ = some (.int .i64 W) ∧ w'.cell? ⟨g, off + K * 9 + 2, none⟩ = some (.int .i64 B) ∧ w'.cell? ⟨g, off + K * 9 + 3, none⟩ = some (.int .i64 Sl) ∧ w'.cell? ⟨g, off + K * 9 + 4, none⟩ = some (.int .i64 Ce) ∧ w'.cell? ⟨g, off + K * 9 + 5, none⟩ = some (.int .i64 Ro) ∧ w'.cell? ⟨g, off + K * 9 + 6, none⟩ = some (.int .i64 Wi) ∧ w'.cell? ⟨g, off + K * 9 + 7, none⟩ = some (.int .i64 Tr) ∧ w'.cell? ⟨g, off + K * 9 + 8, none⟩ = some (.bool sm))), (fun _ : World => True)]) (by kernel_rfl) (Ph.pick0 ⟨HP.out.drew.rd, HD.out.drew.rd, HCC.out wr.drew (below_draws (Below.refl _ _) 1) HG.out⟩) (fun hHeld hOrd => ?_)
      refine Ph.take (i := 0) (oi := ?_) (v := ?_) (p := 0) ?_ ?_ ?_ ?_ hOrd ?_ ?_ ?_ ?_ ?_ ?_
      rotate_left 2
      · simp only [List.getElem?_toArray, List.getElem?_cons_succ, List.getElem?_cons_zero]; rfl
      · kernel_rfl
      · kernel_rfl
      · kernel_rfl
      · kernel_rfl
      · kernel_rfl
      · exact fun _ _ _ h => h
      · refine Or.inl ⟨by rfl, ?_⟩
        intro w' hSw
        (try simp only [Ph.pick, List.getD_cons_succ, List.getD_cons_zero] at hSw)
        go_simp
        all_goals (with_reducible rfl)
      · assumption
      clear hOrd
      intro hOrd
      try simp only [Act.put, List.setIfInBounds_toArray, List.set_cons_zero, List.set_cons_succ] at hOrd ⊢
      refine Ph.take (i := 1) (oi := ?_) (v := ?_) (p := 0) ?_ ?_ ?_ ?_ hOrd ?_ ?_ ?_ ?_ ?_ ?_
      rotate_left 2
      · simp only [List.getElem?_toArray, List.getElem?_cons_succ, List.getElem?_cons_zero]; rfl
      · kernel_rfl
      · kernel_rfl
      · kernel_rfl
      · kernel_rfl
      · kernel_rfl
      · exact fun _ _ _ h => h
      · refine Or.inl ⟨by rfl, ?_⟩
        intro w' hSw
        (try simp only [Ph.pick, List.getD_cons_succ, List.getD_cons_zero] at hSw)
        go_simp
        all_goals (with_reducible rfl)
      · assumption
      clear hOrd
      intro hOrd
      try simp only [Act.put, List.setIfInBounds_toArray, List.set_cons_zero, List.set_cons_succ] at hOrd ⊢
      refine Ph.take (i := 2) (oi := ?_) (v := ?_) (p := 0) ?_ ?_ ?_ ?_ hOrd ?_ ?_ ?_ ?_ ?_ ?_
      rotate_left 2
      · simp only [List.getElem?_toArray, List.getElem?_cons_succ, List.getElem?_cons_zero]; rfl
      · kernel_rfl
      · kernel_rfl
      · kernel_rfl
      · kernel_rfl
      · kernel_rfl
      · exact fun _ _ _ h => h
      · refine Or.inl ⟨by rfl, ?_⟩
        intro w' hSw
        (try simp only [Ph.pick, List.getD_cons_succ, List.getD_cons_zero] at hSw)
        go_simp
        all_goals (with_reducible rfl)
      · assumption
      clear hOrd
      intro hOrd
      try simp only [Act.put, List.setIfInBounds_toArray, List.set_cons_zero, List.set_cons_succ] at hOrd ⊢
      refine Ph.take (i := 3) (oi := ?_) (v := ?_) (p := 0) ?_ ?_ ?_ ?_ hOrd ?_ ?_ ?_ ?_ ?_ ?_
      rotate_left 2
      · simp only [List.getElem?_toArray, List.getElem?_cons_succ, List.getElem?_cons_zero]; rfl
      · kernel_rfl
      · kernel_rfl
      · kernel_rfl
      · kernel_rfl
      · kernel_rfl
      · exact fun _ _ _ h => h
      · refine Or.inl ⟨by rfl, ?_⟩
        intro w' hSw
        (try simp only [Ph.pick, List.getD_cons_succ, List.getD_cons_zero] at hSw)
        go_simp
        all_goals (with_reducible rfl)
      · assumption
      clear hOrd
      intro hOrd
      try simp only [Act.put, List.setIfInBounds_toArray, List.set_cons_zero, List.set_cons_succ] at hOrd ⊢
      refine Ph.take (i := 4) (oi := ?_) (v := ?_) (p := 0) ?_ ?_ ?_ ?_ hOrd ?_ ?_ ?_ ?_ ?_ ?_
      rotate_left 2
      · simp only [List.getElem?_toArray, List.getElem?_cons_succ, List.getElem?_cons_zero]; rfl
      · kernel_rfl
      · kernel_rfl
      · kernel_rfl
      · kernel_rfl
      · kernel_rfl
      · exact fun _ _ _ h => h
      · refine Or.inl ⟨by rfl, ?_⟩
        intro w' hSw
        (try simp only [Ph.pick, List.getD_cons_succ, List.getD_cons_zero] at hSw)
        go_simp
        all_goals (with_reducible rfl)
      · assumption
      clear hOrd
      intro hOrd
      try simp only [Act.put, List.setIfInBounds_toArray, List.set_cons_zero, List.set_cons_succ] at hOrd ⊢
      refine Ph.take (i := 5) (oi := ?_) (v := ?_) (p := 0) ?_ ?_ ?_ ?_ hOrd ?_ ?_ ?_ ?_ ?_ ?_
      rotate_left 2
      · simp only [List.getElem?_toArray, List.getElem?_cons_succ, List.getElem?_cons_zero]; rfl
      · kernel_rfl
      · kernel_rfl
      · kernel_rfl
      · kernel_rfl
      · kernel_rfl
      · exact fun _ _ _ h => h
      · refine Or.inl ⟨by rfl, ?_⟩
        intro w' hSw
        (try simp only [Ph.pick, List.getD_cons_succ, List.getD_cons_zero] at hSw)
        go_simp
        all_goals (with_reducible rfl)
      · assumption
      clear hOrd
      intro hOrd
      try simp only [Act.put, List.setIfInBounds_toArray, List.set_cons_zero, List.set_cons_succ] at hOrd ⊢
      refine Ph.take (i := 6) (oi := ?_) (v := ?_) (p := 0) ?_ ?_ ?_ ?_ hOrd ?_ ?_ ?_ ?_ ?_ ?_
      rotate_left 2
      · simp only [List.getElem?_toArray, List.getElem?_cons_succ, List.getElem?_cons_zero]; rfl
      · kernel_rfl
      · kernel_rfl
      · kernel_rfl
      · kernel_rfl
      · kernel_rfl
      · exact fun _ _ _ h => h
      · refine Or.inl ⟨by rfl, ?_⟩
        intro w' hSw
        (try simp only [Ph.pick, List.getD_cons_succ, List.getD_cons_zero] at hSw)
        go_simp
        all_goals (with_reducible rfl)
      · assumption
      clear hOrd
      intro hOrd
      try simp only [Act.put, List.setIfInBounds_toArray, List.set_cons_zero, List.set_cons_succ] at hOrd ⊢
      refine Ph.take (i := 7) (oi := ?_) (v := ?_) (p := 0) ?_ ?_ ?_ ?_ hOrd ?_ ?_ ?_ ?_ ?_ ?_
      rotate_left 2
      · simp only [List.getElem?_toArray, List.getElem?_cons_succ, List.getElem?_cons_zero]; rfl
      · kernel_rfl
      · kernel_rfl
      · kernel_rfl
      · kernel_rfl
      · kernel_rfl
      · exact fun _ _ _ h => h
      · refine Or.inl ⟨by rfl, ?_⟩
        intro w' hSw
        (try simp only [Ph.pick, List.getD_cons_succ, List.getD_cons_zero] at hSw)
        go_simp
        all_goals (with_reducible rfl)
      · assumption
      clear hOrd
      intro hOrd
      try simp only [Act.put, List.setIfInBounds_toArray, List.set_cons_zero, List.set_cons_succ] at hOrd ⊢
      refine Ph.take (i := 8) (oi := ?_) (v := ?_) (p := 0) ?_ ?_ ?_ ?_ hOrd ?_ ?_ ?_ ?_ ?_ ?_
      rotate_left 2
      · simp only [List.getElem?_toArray, List.getElem?_cons_succ, List.getElem?_cons_zero]; rfl
      · kernel_rfl
      · kernel_rfl
      · kernel_rfl
      · kernel_rfl
      · kernel_rfl
      · exact fun _ _ _ h => h
      · refine Or.inl ⟨by rfl, ?_⟩
        intro w' hSw
        (try simp only [Ph.pick, List.getD_cons_succ, List.getD_cons_zero] at hSw)
        go_simp
        all_goals (with_reducible rfl)
      · assumption
      clear hOrd
      intro hOrd
      try simp only [Act.put, List.setIfInBounds_toArray, List.set_cons_zero, List.set_cons_succ] at hOrd ⊢
      refine Ph.take (i := 9) (oi := ?_) (v := ?_) (p := 0) ?_ ?_ ?_ ?_ hOrd ?_ ?_ ?_ ?_ ?_ ?_
      rotate_left 2
      · simp only [List.getElem?_toArray, List.getElem?_cons_succ, List.getElem?_cons_zero]; rfl
      · kernel_rfl
      · kernel_rfl
      · kernel_rfl
      · kernel_rfl
      · kernel_rfl
      · exact fun _ _ _ h => h
      · refine Or.inl ⟨by rfl, ?_⟩
        intro w' hSw
        (try simp only [Ph.pick, List.getD_cons_succ, List.getD_cons_zero] at hSw)
        go_simp
        all_goals (with_reducible rfl)
      · assumption
      clear hOrd
      intro hOrd
      try simp only [Act.put, List.setIfInBounds_toArray, List.set_cons_zero, List.set_cons_succ] at hOrd ⊢
      refine Ph.take (i := 10) (oi := ?_) (v := ?_) (p := 0) ?_ ?_ ?_ ?_ hOrd ?_ ?_ ?_ ?_ ?_ ?_
      rotate_left 2
      · simp only [List.getElem?_toArray, List.getElem?_cons_succ, List.getElem?_cons_zero]; rfl
      · kernel_rfl
      · kernel_rfl
      · kernel_rfl
      · kernel_rfl
      · kernel_rfl
      · exact fun _ _ _ h => h
      · refine Or.inl ⟨by rfl, ?_⟩
        intro w' hSw
        (try simp only [Ph.pick, List.getD_cons_succ, List.getD_cons_zero] at hSw)
        go_simp
        all_goals (with_reducible rfl)
      · assumption
      clear hOrd
      intro hOrd
      try simp only [Act.put, List.setIfInBounds_toArray, List.set_cons_zero, List.set_cons_succ] at hOrd ⊢
      refine Ph.take (i := 11) (oi := ?_) (v := ?_) (p := 0) ?_ ?_ ?_ ?_ hOrd ?_ ?_ ?_ ?_ ?_ ?_
      rotate_left 2
      · simp only [List.getElem?_toArray, List.getElem?_cons_succ, List.getElem?_cons_zero]; rfl
      · kernel_rfl
      · kernel_rfl
      · kernel_rfl
      · kernel_rfl
      · kernel_rfl
      · exact fun _ _ _ h => h
      · refine Or.inl ⟨by rfl, ?_⟩
        intro w' hSw
        (try simp only [Ph.pick, List.getD_cons_succ, List.getD_cons_zero] at hSw)
        go_simp
        all_goals (with_reducible rfl)
      · assumption
      clear hOrd
      intro hOrd
      try simp only [Act.put, List.setIfInBounds_toArray, List.set_cons_zero, List.set_cons_succ] at hOrd ⊢
      refine Ph.alone (i := 12) (o := ?_) (p := 0) ?_ ?_ hOrd ?_ ?_
      rotate_left 2
      · simp only [List.getElem?_toArray, List.getElem?_cons_succ, List.getElem?_cons_zero]; rfl
      rotate_right 1
      · kernel_rfl
      · kernel_rfl
      clear hOrd
      intro K hK
      go_simp
      skip
      refine hK.out _ _ (Ph.pick0 ⟨HP2.out.rd, HD2.out.rd, HCC.out _ BR2.out HG.out⟩) (fun hHeld hOrd => ?_)
      clear hK K
      try simp only [Act.put, List.setIfInBounds_toArray, List.set_cons_zero, List.set_cons_succ] at hOrd ⊢
      refine Ph.alone (i := 13) (o := ?_) (p := 0) ?_ ?_ hOrd ?_ ?_
      rotate_left 2
      · simp only [List.getElem?_toArray, List.getElem?_cons_succ, List.getElem?_cons_zero]; rfl
      rotate_right 1
      · kernel_rfl
      · kernel_rfl
      clear hOrd
      intro K hK
      refine step_append_lies _ (by rfl) _ _ 27 (by rfl) w.heap.size 23 i0 (.agg (ruC 0 0 0 0 0 0 0 0 false)) 9 72 Try.underlying27 hi0 hz0 hz1 hz2 (by rfl) (by omega) dv i (cells9 (rs.reverse.take i)) (by rfl) HO2.out ⟨wr.heap.size, 0, none⟩ 1 1 (ruC L W B Sl Ce Ro Wi Tr sm).toList (by rfl) (by rfl) (World.news_of_block NW.out) (by simp [Value.oneCell']) (by omega) (by have := HN.out; unfold maxLen; omega) (by have := HN.out; omega) (by rw [SZ2.out]; have := SZ.out; omega) (wr.heap.size + 1) SZ2.out ?_; intro gl cl w9 hown9 hgrow9 hat9 hlt9; have HO9 := Lib.hid hown9; have FR9 := Lib.hid (fr_row9 hgrow9); have GT := Lib.hid (fun gq hq => owns_typ HO2.out gq hq); have P9 := Lib.hid (HP2.out.fr FR9.out (fun hF => by obtain ⟨_, _, cx, fx, hx⟩ := GT.out b1 hF; rw [show _ = _ from HP2.out] at hx; injection hx with hx; injection hx with _ hx; revert hx; decide)); have D9 := Lib.hid (HD2.out.fr FR9.out (fun hF => by obtain ⟨_, _, cx, fx, hx⟩ := GT.out b3 hF; rw [show _ = _ from HD2.out] at hx; injection hx with hx; injection hx with _ hx; revert hx; decide)); have BR9 := Lib.hid (BR2.out.trans (FR9.out.below (by rw [SZ2.out]; have := SZ.out; omega) (fun kq hq => (GT.out kq hq).1))); have d9 := D9.out.rd; have d9w := D9.out.wr; clear hown9 hgrow9 hat9 hlt9
      refine hK.out _ _ (Ph.pick0 ⟨P9.out.rd, D9.out.rd, HCC.out _ BR9.out HG.out⟩) (fun hHeld hOrd => ?_)
      clear hK K
      try simp only [Act.put, List.setIfInBounds_toArray, List.set_cons_zero, List.set_cons_succ] at hOrd ⊢
      refine Ph.take (i := 14) (oi := ?_) (v := ?_) (p := 0) ?_ ?_ ?_ ?_ hOrd ?_ ?_ ?_ ?_ ?_ ?_
      rotate_left 2
      · simp only [List.getElem?_toArray, List.getElem?_cons_succ, List.getElem?_cons_zero]; rfl
      · kernel_rfl
      · kernel_rfl
      · kernel_rfl
      · kernel_rfl
      · kernel_rfl
      · exact fun _ _ _ h => h
      · refine Or.inl ⟨by rfl, ?_⟩
        intro w' hSw
        (try simp only [Ph.pick, List.getD_cons_succ, List.getD_cons_zero] at hSw)
        go_simp
        all_goals (with_reducible rfl)
      · assumption
      clear hOrd
      intro hOrd
      try simp only [Act.put, List.setIfInBounds_toArray, List.set_cons_zero, List.set_cons_succ] at hOrd ⊢
      refine Ph.alone (i := 15) (o := ?_) (p := 1) ?_ ?_ hOrd ?_ ?_
      rotate_left 2
      · simp only [List.getElem?_toArray, List.getElem?_cons_succ, List.getElem?_cons_zero]; rfl
      rotate_right 1
      · kernel_rfl
      · kernel_rfl
      clear hOrd
      intro K hK
      go_simp
      skip
      refine hK.out _ _ (Ph.pick1 trivial) (fun hHeld hOrd => ?_)
      clear hK K
      try simp only [Act.put, List.setIfInBounds_toArray, List.set_cons_zero, List.set_cons_succ] at hOrd ⊢
      refine Ph.done (by kernel_rfl) ?_ _
      clear hHeld hOrd d9 d9w
      go_wp2
      go_roundg (n - (i + 1))
      case measure => have := HK.out; omega
      case rel =>
        have e9 := setCell_obj D9.out (i := 3) (.slice (some ⟨gl, 0, none⟩) (i + 1) cl)
        rw [e9]
        have FRS : Fr (fun k => k = b3) w9 (setObj w9 b3 (.cells ((coC Bu Co Ou dv).setIfInBounds 3 (.slice (some ⟨gl, 0, none⟩) (i + 1) cl)) 29 (0, 0))) := Fr.setObj (F := fun k => k = b3) (Fr.refl _ _) rfl _
        refine ⟨i + 1, _, by omega, by omega, by go_num, P9.out.fr FRS (by have := NE.out; omega), setObj_at (lt_of_block D9.out) _, ?_, ?_⟩
        · rw [HNX.out]
          refine owns_fr9 HO9.out FRS (fun gq hq hF => ?_)
          obtain ⟨_, _, cx, fx, hx⟩ := owns_typ HO9.out gq hq
          rw [hF] at hx
          rw [show _ = _ from D9.out] at hx; injection hx with hx; injection hx with _ hx; revert hx; decide
        · exact (HB.out.trans (BR9.out)).trans (FRS.below (by have := HB.out.size; have := BR9.out.size; omega) (fun kq hq => by have h1 := NE.out; have h2 := HB1.out; omega))
    · have hie : i = n := by omega
      subst hie
      have hown := HO.out
      rw [List.take_of_length_le (by rw [List.length_reverse, HLEN.out]; exact Nat.le_refl _)] at hown
      obtain ⟨A', cap', rfl, hrd⟩ := ru_at hown (fun r hr => HR.out.ok r (List.mem_reverse.1 hr))
      have HRD := Lib.hid hrd
      have HVR := Lib.hid (HV.out.trans (rightZ_rev Bu Co Ou rs).symm)
      have sv : (v != v) = false := by cases v <;> rfl
      have hlr : rs.reverse.length = i := by rw [List.length_reverse]; exact HLEN.out
      have HLR := Lib.hid hlr
      have NB := Lib.hid HB.out
      clear hown hrd hlr
      obtain ⟨wo, hwo⟩ : ∃ wo : World, wo = wr := ⟨_, rfl⟩
      rw [← hwo] at HP HD HB HRD ⊢
      clear hwo
      have kp := HP.out.rd
      go_upto_region 12 with (fail)
      clear kp
      have SS := Lib.hid (fun (wx : World) (hx : Below wo.heap.size wo wx) => show (∀ j, wx.cell? ⟨b1, j, none⟩ = (coC Bu Co Ou (.slice A i c))[j]?) ∧ (∀ j, wx.cell? ⟨b3, j, none⟩ = (coC Bu Co Ou (.slice A' i cap'))[j]?) from ⟨(HP.out.keep hx).rd, (HD.out.keep hx).rd⟩)
      have RC := Lib.hid (fun (wx : World) (hx : Below wo.heap.size wo wx) => HR.out.below (HB.out.trans (hx.mono HB.out.size)))
      have RD := Lib.hid (fun (wx : World) (hx : Below wo.heap.size wo wx) => HRD.out.below hx)
      have C1 := Lib.hid (fun (wx : World) (hx : Below wo.heap.size wo wx) => right_any Bu Co Ou A i c rs v HV.out wx (RC.out wx hx))
      have C2 := Lib.hid (fun (wx : World) (hx : Below wo.heap.size wo wx) => right_any Bu Co Ou A' i cap' rs.reverse v HVR.out wx (RD.out wx hx))
      have CL := Lib.hid (fun (wx : World) (hx : Below wo.heap.size wo wx) => lright_any Bu Co Ou A i c rs v HV.out wx (RC.out wx hx))
      have BD := Lib.hid (show Below wo.heap.size wo wo.drew from below_draws (Below.refl _ _) 1)
      have y0 := SS.out wo.drew BD.out
      refine wp_region_held_drew (S := fun w' => (∀ j, w'.cell? ⟨b1, j, none⟩ = (coC Bu Co Ou (.slice A i c))[j]?) ∧ (∀ j, w'.cell? ⟨b3, j, none⟩ = (coC Bu Co Ou (.slice A' i cap'))[j]?)) (by kernel_rfl) y0 (fun hHeld => ?_)
      clear y0
      refine wpAnyH_take (i := 0) (oi := ?_) (v := ?_) ?_ ?_ ?_ ?_ ?_ ?_ ?_ ?_
      rotate_left 2
      · simp only [List.getElem?_toArray, List.getElem?_cons_succ, List.getElem?_cons_zero]; rfl
      · kernel_rfl
      · kernel_rfl
      · kernel_rfl
      · exact fun _ _ _ h => h
      · refine Or.inl ⟨by rfl, ?_⟩
        intro w' hSw
        (try dsimp only at hSw)
        go_simp
        all_goals (with_reducible rfl)
      · assumption
      try simp only [Act.put, List.setIfInBounds_toArray, List.set_cons_zero, List.set_cons_succ]
      refine wpAnyH_take (i := 2) (oi := ?_) (v := ?_) ?_ ?_ ?_ ?_ ?_ ?_ ?_ ?_
      rotate_left 2
      · simp only [List.getElem?_toArray, List.getElem?_cons_succ, List.getElem?_cons_zero]; rfl
      · kernel_rfl
      · kernel_rfl
      · kernel_rfl
      · exact fun _ _ _ h => h
      · refine Or.inl ⟨by rfl, ?_⟩
        intro w' hSw
        (try dsimp only at hSw)
        go_simp
        all_goals (with_reducible rfl)
      · assumption
      try simp only [Act.put, List.setIfInBounds_toArray, List.set_cons_zero, List.set_cons_succ]
      refine wpAnyH_ready (rs := [1]) (by kernel_rfl) (by simp) ?_
      refine AllReadyH.cons (o := ?_) ?_ ?_ ?_
      rotate_left 1
      · simp only [List.getElem?_toArray, List.getElem?_cons_succ, List.getElem?_cons_zero]; rfl
      rotate_left 1
      · exact AllReadyH.nil
      intro K hK
      go_simp
      ((with_reducible refine (C1.out _ BD.out).mono ?_); rintro e w7 ⟨rfl, b7⟩; have BN := Lib.hid (BD.out.trans (b7.mono BD.out.size)); clear b7)
      refine hK.out _ _ (SS.out _ BN.out) (fun hHeld => ?_)
      clear hK K
      try simp only [Act.put, List.setIfInBounds_toArray, List.set_cons_zero, List.set_cons_succ]
      refine wpAnyH_ready (rs := [3]) (by kernel_rfl) (by simp) ?_
      refine AllReadyH.cons (o := ?_) ?_ ?_ ?_
      rotate_left 1
      · simp only [List.getElem?_toArray, List.getElem?_cons_succ, List.getElem?_cons_zero]; rfl
      rotate_left 1
      · exact AllReadyH.nil
      intro K hK
      go_simp
      ((with_reducible refine (C2.out _ BN.out).mono ?_); rintro e w8 ⟨rfl, b8⟩; have BM := Lib.hid (BN.out.trans (b8.mono BN.out.size)); clear b8)
      refine hK.out _ _ (SS.out _ BM.out) (fun hHeld => ?_)
      clear hK K
      try simp only [Act.put, List.setIfInBounds_toArray, List.set_cons_zero, List.set_cons_succ]
      refine wpAnyH_take (i := 4) (oi := ?_) (v := ?_) ?_ ?_ ?_ ?_ ?_ ?_ ?_ ?_
      rotate_left 2
      · simp only [List.getElem?_toArray, List.getElem?_cons_succ, List.getElem?_cons_zero]; rfl
      · kernel_rfl
      · kernel_rfl
      · kernel_rfl
      · exact fun _ _ _ h => h
      · refine Or.inl ⟨by rfl, ?_⟩
        intro w' hSw
        (try dsimp only at hSw)
        go_simp
        all_goals (with_reducible rfl)
      · assumption
      try simp only [Act.put, List.setIfInBounds_toArray, List.set_cons_zero, List.set_cons_succ]
      refine wpAnyH_done (by kernel_rfl) ?_ _
      clear hHeld
      go_upto_region 14 with (fail)
      have BE := Lib.hid (show Below wo.heap.size wo w8.drew from below_draws BM.out 1)
      have y0 := SS.out w8.drew BE.out
      refine wp_region_held_drew (S := fun w' => (∀ j, w'.cell? ⟨b1, j, none⟩ = (coC Bu Co Ou (.slice A i c))[j]?) ∧ (∀ j, w'.cell? ⟨b3, j, none⟩ = (coC Bu Co Ou (.slice A' i cap'))[j]?)) (by kernel_rfl) y0 (fun hHeld => ?_)
      clear y0
      cases v
      · skip
        refine wpAnyH_take (i := 0) (oi := ?_) (v := ?_) ?_ ?_ ?_ ?_ ?_ ?_ ?_ ?_
        rotate_left 2
        · simp only [List.getElem?_toArray, List.getElem?_cons_succ, List.getElem?_cons_zero]; rfl
        · kernel_rfl
        · kernel_rfl
        · kernel_rfl
        · exact fun _ _ _ h => h
        · refine Or.inl ⟨by rfl, ?_⟩
          intro w' hSw
          (try dsimp only at hSw)
          go_simp
          all_goals (with_reducible rfl)
        · assumption
        try simp only [Act.put, List.setIfInBounds_toArray, List.set_cons_zero, List.set_cons_succ]
        refine wpAnyH_ready (rs := [1]) (by kernel_rfl) (by simp) ?_
        refine AllReadyH.cons (o := ?_) ?_ ?_ ?_
        rotate_left 1
        · simp only [List.getElem?_toArray, List.getElem?_cons_succ, List.getElem?_cons_zero]; rfl
        rotate_left 1
        · exact AllReadyH.nil
        intro K hK
        go_simp
        ((with_reducible refine (CL.out _ BE.out).mono ?_); rintro e w9 ⟨rfl, b9⟩; have BO := Lib.hid (BE.out.trans (b9.mono BE.out.size)); clear b9)
        refine hK.out _ _ (SS.out _ BO.out) (fun hHeld => ?_)
        clear hK K
        try simp only [Act.put, List.setIfInBounds_toArray, List.set_cons_zero, List.set_cons_succ]
        refine wpAnyH_take (i := 2) (oi := ?_) (v := ?_) ?_ ?_ ?_ ?_ ?_ ?_ ?_ ?_
        rotate_left 2
        · simp only [List.getElem?_toArray, List.getElem?_cons_succ, List.getElem?_cons_zero]; rfl
        · kernel_rfl
        · kernel_rfl
        · kernel_rfl
        · exact fun _ _ _ h => h
        · refine Or.inl ⟨by rfl, ?_⟩
          intro w' hSw
          (try dsimp only at hSw)
          go_simp
          all_goals (with_reducible rfl)
        · assumption
        try simp only [Act.put, List.setIfInBounds_toArray, List.set_cons_zero, List.set_cons_succ]
        refine wpAnyH_take (i := 3) (oi := ?_) (v := ?_) ?_ ?_ ?_ ?_ ?_ ?_ ?_ ?_
        rotate_left 2
        · simp only [List.getElem?_toArray, List.getElem?_cons_succ, List.getElem?_cons_zero]; rfl
        · kernel_rfl
        · kernel_rfl
        · kernel_rfl
        · exact fun _ _ _ h => h
        · refine Or.inl ⟨by rfl, ?_⟩
          intro w' hSw
          (try dsimp only at hSw)
          go_simp
          all_goals (with_reducible rfl)
        · assumption
        try simp only [Act.put, List.setIfInBounds_toArray, List.set_cons_zero, List.set_cons_succ]
        refine wpAnyH_take (i := 4) (oi := ?_) (v := undef) ?_ ?_ ?_ ?_ ?_ ?_ ?_ ?_
        rotate_left 1
        · simp only [List.getElem?_toArray, List.getElem?_cons_succ, List.getElem?_cons_zero]; rfl
        · kernel_rfl
        · kernel_rfl
        · kernel_rfl
        · exact fun _ _ _ h => h
        · exact Or.inr ⟨by kernel_rfl, rfl⟩
        · assumption
        try simp only [Act.put, List.setIfInBounds_toArray, List.set_cons_zero, List.set_cons_succ]
        refine wpAnyH_take (i := 5) (oi := ?_) (v := undef) ?_ ?_ ?_ ?_ ?_ ?_ ?_ ?_
        rotate_left 1
        · simp only [List.getElem?_toArray, List.getElem?_cons_succ, List.getElem?_cons_zero]; rfl
        · kernel_rfl
        · kernel_rfl
        · kernel_rfl
        · exact fun _ _ _ h => h
        · exact Or.inr ⟨by kernel_rfl, rfl⟩
        · assumption
        try simp only [Act.put, List.setIfInBounds_toArray, List.set_cons_zero, List.set_cons_succ]
        refine wpAnyH_take (i := 6) (oi := ?_) (v := undef) ?_ ?_ ?_ ?_ ?_ ?_ ?_ ?_
        rotate_left 1
        · simp only [List.getElem?_toArray, List.getElem?_cons_succ, List.getElem?_cons_zero]; rfl
        · kernel_rfl
        · kernel_rfl
        · kernel_rfl
        · exact fun _ _ _ h => h
        · exact Or.inr ⟨by kernel_rfl, rfl⟩
        · assumption
        try simp only [Act.put, List.setIfInBounds_toArray, List.set_cons_zero, List.set_cons_succ]
        refine wpAnyH_take (i := 7) (oi := ?_) (v := undef) ?_ ?_ ?_ ?_ ?_ ?_ ?_ ?_
        rotate_left 1
        · simp only [List.getElem?_toArray, List.getElem?_cons_succ, List.getElem?_cons_zero]; rfl
        · kernel_rfl
        · kernel_rfl
        · kernel_rfl
        · exact fun _ _ _ h => h
        · exact Or.inr ⟨by kernel_rfl, rfl⟩
        · assumption
        try simp only [Act.put, List.setIfInBounds_toArray, List.set_cons_zero, List.set_cons_succ]
        refine wpAnyH_take (i := 8) (oi := ?_) (v := undef) ?_ ?_ ?_ ?_ ?_ ?_ ?_ ?_
        rotate_left 1
        · simp only [List.getElem?_toArray, List.getElem?_cons_succ, List.getElem?_cons_zero]; rfl
        · kernel_rfl
        · kernel_rfl
        · kernel_rfl
        · exact fun _ _ _ h => h
        · exact Or.inr ⟨by kernel_rfl, rfl⟩
        · assumption
        try simp only [Act.put, List.setIfInBounds_toArray, List.set_cons_zero, List.set_cons_succ]
        refine wpAnyH_take (i := 9) (oi := ?_) (v := undef) ?_ ?_ ?_ ?_ ?_ ?_ ?_ ?_
        rotate_left 1
        · simp only [List.getElem?_toArray, List.getElem?_cons_succ, List.getElem?_cons_zero]; rfl
        · kernel_rfl
        · kernel_rfl
        · kernel_rfl
        · exact fun _ _ _ h => h
        · exact Or.inr ⟨by kernel_rfl, rfl⟩
        · assumption
        try simp only [Act.put, List.setIfInBounds_toArray, List.set_cons_zero, List.set_cons_succ]
        refine wpAnyH_take (i := 10) (oi := ?_) (v := undef) ?_ ?_ ?_ ?_ ?_ ?_ ?_ ?_
        rotate_left 1
        · simp only [List.getElem?_toArray, List.getElem?_cons_succ, List.getElem?_cons_zero]; rfl
        · kernel_rfl
        · kernel_rfl
        · kernel_rfl
        · exact fun _ _ _ h => h
        · exact Or.inr ⟨by kernel_rfl, rfl⟩
        · assumption
        try simp only [Act.put, List.setIfInBounds_toArray, List.set_cons_zero, List.set_cons_succ]
        refine wpAnyH_take (i := 11) (oi := ?_) (v := undef) ?_ ?_ ?_ ?_ ?_ ?_ ?_ ?_
        rotate_left 1
        · simp only [List.getElem?_toArray, List.getElem?_cons_succ, List.getElem?_cons_zero]; rfl
        · kernel_rfl
        · kernel_rfl
        · kernel_rfl
        · exact fun _ _ _ h => h
        · exact Or.inr ⟨by kernel_rfl, rfl⟩
        · assumption
        try simp only [Act.put, List.setIfInBounds_toArray, List.set_cons_zero, List.set_cons_succ]
        refine wpAnyH_take (i := 12) (oi := ?_) (v := undef) ?_ ?_ ?_ ?_ ?_ ?_ ?_ ?_
        rotate_left 1
        · simp only [List.getElem?_toArray, List.getElem?_cons_succ, List.getElem?_cons_zero]; rfl
        · kernel_rfl
        · kernel_rfl
        · kernel_rfl
        · exact fun _ _ _ h => h
        · exact Or.inr ⟨by kernel_rfl, rfl⟩
        · assumption
        try simp only [Act.put, List.setIfInBounds_toArray, List.set_cons_zero, List.set_cons_succ]
        refine wpAnyH_take (i := 13) (oi := ?_) (v := undef) ?_ ?_ ?_ ?_ ?_ ?_ ?_ ?_
        rotate_left 1
        · simp only [List.getElem?_toArray, List.getElem?_cons_succ, List.getElem?_cons_zero]; rfl
        · kernel_rfl
        · kernel_rfl
        · kernel_rfl
        · exact fun _ _ _ h => h
        · exact Or.inr ⟨by kernel_rfl, rfl⟩
        · assumption
        try simp only [Act.put, List.setIfInBounds_toArray, List.set_cons_zero, List.set_cons_succ]
        refine wpAnyH_take (i := 14) (oi := ?_) (v := undef) ?_ ?_ ?_ ?_ ?_ ?_ ?_ ?_
        rotate_left 1
        · simp only [List.getElem?_toArray, List.getElem?_cons_succ, List.getElem?_cons_zero]; rfl
        · kernel_rfl
        · kernel_rfl
        · kernel_rfl
        · exact fun _ _ _ h => h
        · exact Or.inr ⟨by kernel_rfl, rfl⟩
        · assumption
        try simp only [Act.put, List.setIfInBounds_toArray, List.set_cons_zero, List.set_cons_succ]
        refine wpAnyH_take (i := 15) (oi := ?_) (v := undef) ?_ ?_ ?_ ?_ ?_ ?_ ?_ ?_
        rotate_left 1
        · simp only [List.getElem?_toArray, List.getElem?_cons_succ, List.getElem?_cons_zero]; rfl
        · kernel_rfl
        · kernel_rfl
        · kernel_rfl
        · exact fun _ _ _ h => h
        · exact Or.inr ⟨by kernel_rfl, rfl⟩
        · assumption
        try simp only [Act.put, List.setIfInBounds_toArray, List.set_cons_zero, List.set_cons_succ]
        refine wpAnyH_take (i := 16) (oi := ?_) (v := ?_) ?_ ?_ ?_ ?_ ?_ ?_ ?_ ?_
        rotate_left 2
        · simp only [List.getElem?_toArray, List.getElem?_cons_succ, List.getElem?_cons_zero]; rfl
        · kernel_rfl
        · kernel_rfl
        · kernel_rfl
        · exact fun _ _ _ h => h
        · refine Or.inl ⟨by rfl, ?_⟩
          intro w' hSw
          (try dsimp only at hSw)
          go_simp
          all_goals (with_reducible rfl)
        · assumption
        try simp only [Act.put, List.setIfInBounds_toArray, List.set_cons_zero, List.set_cons_succ]
        refine wpAnyH_take (i := 17) (oi := ?_) (v := ?_) ?_ ?_ ?_ ?_ ?_ ?_ ?_ ?_
        rotate_left 2
        · simp only [List.getElem?_toArray, List.getElem?_cons_succ, List.getElem?_cons_zero]; rfl
        · kernel_rfl
        · kernel_rfl
        · kernel_rfl
        · exact fun _ _ _ h => h
        · refine Or.inl ⟨by rfl, ?_⟩
          intro w' hSw
          (try dsimp only at hSw)
          go_simp
          all_goals (with_reducible rfl)
        · assumption
        try simp only [Act.put, List.setIfInBounds_toArray, List.set_cons_zero, List.set_cons_succ]
        refine wpAnyH_done (by kernel_rfl) ?_ _
        clear hHeld
        go_wp2
        go_ret
        exact ⟨rfl, HB.out.trans (BO.out.mono HB.out.size)⟩
      · have hz := HV.out.1 rfl
        obtain ⟨hC, hN, hBu, hall, hM, hO, hF⟩ := hz
        have hlen := HLEN.out
        have hO46 : 46 ≤ Ou := ((most_le (by omega) Ou).1 hM).1
        obtain ⟨F, hFe⟩ : ∃ F, F = Co * Ou + sumB rs := ⟨_, rfl⟩
        obtain ⟨M, hMe⟩ : ∃ M, M = mostZ rs := ⟨_, rfl⟩
        have CF1 := Lib.hid (fun (wx : World) (hx : Below wo.heap.size wo wx) => show Calls Try.prog 17 #[.agg (coC Bu Co Ou (.slice A i c))] wx (fun e w' => e = .returned (.int .i64 F) ∧ Below wx.heap.size wx w') from by rw [hFe]; exact foot_any Bu Co Ou A i c rs wx (RC.out wx hx) (by omega) hall hC ⟨by omega, hO⟩)
        have CF2 := Lib.hid (fun (wx : World) (hx : Below wo.heap.size wo wx) => show Calls Try.prog 17 #[.agg (coC Bu Co Ou (.slice A' i cap'))] wx (fun e w' => e = .returned (.int .i64 F) ∧ Below wx.heap.size wx w') from by rw [hFe, ← sumB_rev rs]; exact foot_any Bu Co Ou A' i cap' rs.reverse wx (RD.out wx hx) (by omega) (fun r hr => hall r (List.mem_reverse.1 hr)) hC ⟨by omega, hO⟩)
        have CM1 := Lib.hid (fun (wx : World) (hx : Below wo.heap.size wo wx) => show Calls Try.prog 16 #[.agg (coC Bu Co Ou (.slice A i c))] wx (fun e w' => e = .returned (.int .i64 M) ∧ Below wx.heap.size wx w') from by rw [hMe]; exact most_any Bu Co Ou A i c rs wx (RC.out wx hx) hall)
        have CM2 := Lib.hid (fun (wx : World) (hx : Below wo.heap.size wo wx) => show Calls Try.prog 16 #[.agg (coC Bu Co Ou (.slice A' i cap'))] wx (fun e w' => e = .returned (.int .i64 M) ∧ Below wx.heap.size wx w') from by rw [hMe, ← mostZ_rev rs]; exact most_any Bu Co Ou A' i cap' rs.reverse wx (RD.out wx hx) (fun r hr => hall r (List.mem_reverse.1 hr)))
        clear hC hN hBu hall hM hO hF hFe hMe hO46
        refine wpAnyH_take (i := 0) (oi := ?_) (v := ?_) ?_ ?_ ?_ ?_ ?_ ?_ ?_ ?_
        rotate_left 2
        · simp only [List.getElem?_toArray, List.getElem?_cons_succ, List.getElem?_cons_zero]; rfl
        · kernel_rfl
        · kernel_rfl
        · kernel_rfl
        · exact fun _ _ _ h => h
        · refine Or.inl ⟨by rfl, ?_⟩
          intro w' hSw
          (try dsimp only at hSw)
          go_simp
          all_goals (with_reducible rfl)
        · assumption
        try simp only [Act.put, List.setIfInBounds_toArray, List.set_cons_zero, List.set_cons_succ]
        refine wpAnyH_ready (rs := [1]) (by kernel_rfl) (by simp) ?_
        refine AllReadyH.cons (o := ?_) ?_ ?_ ?_
        rotate_left 1
        · simp only [List.getElem?_toArray, List.getElem?_cons_succ, List.getElem?_cons_zero]; rfl
        rotate_left 1
        · exact AllReadyH.nil
        intro K hK
        go_simp
        ((with_reducible refine (CL.out _ BE.out).mono ?_); rintro e w9 ⟨rfl, b9⟩; have BO := Lib.hid (BE.out.trans (b9.mono BE.out.size)); clear b9)
        refine hK.out _ _ (SS.out _ BO.out) (fun hHeld => ?_)
        clear hK K
        try simp only [Act.put, List.setIfInBounds_toArray, List.set_cons_zero, List.set_cons_succ]
        refine wpAnyH_take (i := 2) (oi := ?_) (v := ?_) ?_ ?_ ?_ ?_ ?_ ?_ ?_ ?_
        rotate_left 2
        · simp only [List.getElem?_toArray, List.getElem?_cons_succ, List.getElem?_cons_zero]; rfl
        · kernel_rfl
        · kernel_rfl
        · kernel_rfl
        · exact fun _ _ _ h => h
        · refine Or.inl ⟨by rfl, ?_⟩
          intro w' hSw
          (try dsimp only at hSw)
          go_simp
          all_goals (with_reducible rfl)
        · assumption
        try simp only [Act.put, List.setIfInBounds_toArray, List.set_cons_zero, List.set_cons_succ]
        refine wpAnyH_take (i := 3) (oi := ?_) (v := ?_) ?_ ?_ ?_ ?_ ?_ ?_ ?_ ?_
        rotate_left 2
        · simp only [List.getElem?_toArray, List.getElem?_cons_succ, List.getElem?_cons_zero]; rfl
        · kernel_rfl
        · kernel_rfl
        · kernel_rfl
        · exact fun _ _ _ h => h
        · refine Or.inl ⟨by rfl, ?_⟩
          intro w' hSw
          (try dsimp only at hSw)
          go_simp
          all_goals (with_reducible rfl)
        · assumption
        try simp only [Act.put, List.setIfInBounds_toArray, List.set_cons_zero, List.set_cons_succ]
        refine wpAnyH_take (i := 4) (oi := ?_) (v := ?_) ?_ ?_ ?_ ?_ ?_ ?_ ?_ ?_
        rotate_left 2
        · simp only [List.getElem?_toArray, List.getElem?_cons_succ, List.getElem?_cons_zero]; rfl
        · kernel_rfl
        · kernel_rfl
        · kernel_rfl
        · exact fun _ _ _ h => h
        · refine Or.inl ⟨by rfl, ?_⟩
          intro w' hSw
          (try dsimp only at hSw)
          go_simp
          all_goals (with_reducible rfl)
        · assumption
        try simp only [Act.put, List.setIfInBounds_toArray, List.set_cons_zero, List.set_cons_succ]
        refine wpAnyH_take (i := 6) (oi := ?_) (v := ?_) ?_ ?_ ?_ ?_ ?_ ?_ ?_ ?_
        rotate_left 2
        · simp only [List.getElem?_toArray, List.getElem?_cons_succ, List.getElem?_cons_zero]; rfl
        · kernel_rfl
        · kernel_rfl
        · kernel_rfl
        · exact fun _ _ _ h => h
        · refine Or.inl ⟨by rfl, ?_⟩
          intro w' hSw
          (try dsimp only at hSw)
          go_simp
          all_goals (with_reducible rfl)
        · assumption
        try simp only [Act.put, List.setIfInBounds_toArray, List.set_cons_zero, List.set_cons_succ]
        refine wpAnyH_ready (rs := [5]) (by kernel_rfl) (by simp) ?_
        refine AllReadyH.cons (o := ?_) ?_ ?_ ?_
        rotate_left 1
        · simp only [List.getElem?_toArray, List.getElem?_cons_succ, List.getElem?_cons_zero]; rfl
        rotate_left 1
        · exact AllReadyH.nil
        intro K hK
        go_simp
        ((with_reducible refine (CF1.out _ BO.out).mono ?_); rintro e wa ⟨rfl, ba⟩; have BP := Lib.hid (BO.out.trans (ba.mono BO.out.size)); clear ba)
        refine hK.out _ _ (SS.out _ BP.out) (fun hHeld => ?_)
        clear hK K
        try simp only [Act.put, List.setIfInBounds_toArray, List.set_cons_zero, List.set_cons_succ]
        refine wpAnyH_ready (rs := [7]) (by kernel_rfl) (by simp) ?_
        refine AllReadyH.cons (o := ?_) ?_ ?_ ?_
        rotate_left 1
        · simp only [List.getElem?_toArray, List.getElem?_cons_succ, List.getElem?_cons_zero]; rfl
        rotate_left 1
        · exact AllReadyH.nil
        intro K hK
        go_simp
        ((with_reducible refine (CF2.out _ BP.out).mono ?_); rintro e wb ⟨rfl, bb⟩; have BQ := Lib.hid (BP.out.trans (bb.mono BP.out.size)); clear bb)
        refine hK.out _ _ (SS.out _ BQ.out) (fun hHeld => ?_)
        clear hK K
        try simp only [Act.put, List.setIfInBounds_toArray, List.set_cons_zero, List.set_cons_succ]
        refine wpAnyH_take (i := 8) (oi := ?_) (v := ?_) ?_ ?_ ?_ ?_ ?_ ?_ ?_ ?_
        rotate_left 2
        · simp only [List.getElem?_toArray, List.getElem?_cons_succ, List.getElem?_cons_zero]; rfl
        · kernel_rfl
        · kernel_rfl
        · kernel_rfl
        · exact fun _ _ _ h => h
        · refine Or.inl ⟨by rfl, ?_⟩
          intro w' hSw
          (try dsimp only at hSw)
          go_simp
          all_goals (with_reducible rfl)
        · assumption
        try simp only [Act.put, List.setIfInBounds_toArray, List.set_cons_zero, List.set_cons_succ]
        refine wpAnyH_take (i := 9) (oi := ?_) (v := ?_) ?_ ?_ ?_ ?_ ?_ ?_ ?_ ?_
        rotate_left 2
        · simp only [List.getElem?_toArray, List.getElem?_cons_succ, List.getElem?_cons_zero]; rfl
        · kernel_rfl
        · kernel_rfl
        · kernel_rfl
        · exact fun _ _ _ h => h
        · refine Or.inl ⟨by rfl, ?_⟩
          intro w' hSw
          (try dsimp only at hSw)
          go_simp
          all_goals (with_reducible rfl)
        · assumption
        try simp only [Act.put, List.setIfInBounds_toArray, List.set_cons_zero, List.set_cons_succ]
        refine wpAnyH_take (i := 10) (oi := ?_) (v := ?_) ?_ ?_ ?_ ?_ ?_ ?_ ?_ ?_
        rotate_left 2
        · simp only [List.getElem?_toArray, List.getElem?_cons_succ, List.getElem?_cons_zero]; rfl
        · kernel_rfl
        · kernel_rfl
        · kernel_rfl
        · exact fun _ _ _ h => h
        · refine Or.inl ⟨by rfl, ?_⟩
          intro w' hSw
          (try dsimp only at hSw)
          go_simp
          all_goals (with_reducible rfl)
        · assumption
        try simp only [Act.put, List.setIfInBounds_toArray, List.set_cons_zero, List.set_cons_succ]
        refine wpAnyH_take (i := 12) (oi := ?_) (v := ?_) ?_ ?_ ?_ ?_ ?_ ?_ ?_ ?_
        rotate_left 2
        · simp only [List.getElem?_toArray, List.getElem?_cons_succ, List.getElem?_cons_zero]; rfl
        · kernel_rfl
        · kernel_rfl
        · kernel_rfl
        · exact fun _ _ _ h => h
        · refine Or.inl ⟨by rfl, ?_⟩
          intro w' hSw
          (try dsimp only at hSw)
          go_simp
          all_goals (with_reducible rfl)
        · assumption
        try simp only [Act.put, List.setIfInBounds_toArray, List.set_cons_zero, List.set_cons_succ]
        refine wpAnyH_ready (rs := [11]) (by kernel_rfl) (by simp) ?_
        refine AllReadyH.cons (o := ?_) ?_ ?_ ?_
        rotate_left 1
        · simp only [List.getElem?_toArray, List.getElem?_cons_succ, List.getElem?_cons_zero]; rfl
        rotate_left 1
        · exact AllReadyH.nil
        intro K hK
        go_simp
        ((with_reducible refine (CM1.out _ BQ.out).mono ?_); rintro e wc ⟨rfl, bc⟩; have BR := Lib.hid (BQ.out.trans (bc.mono BQ.out.size)); clear bc)
        refine hK.out _ _ (SS.out _ BR.out) (fun hHeld => ?_)
        clear hK K
        try simp only [Act.put, List.setIfInBounds_toArray, List.set_cons_zero, List.set_cons_succ]
        refine wpAnyH_ready (rs := [13]) (by kernel_rfl) (by simp) ?_
        refine AllReadyH.cons (o := ?_) ?_ ?_ ?_
        rotate_left 1
        · simp only [List.getElem?_toArray, List.getElem?_cons_succ, List.getElem?_cons_zero]; rfl
        rotate_left 1
        · exact AllReadyH.nil
        intro K hK
        go_simp
        ((with_reducible refine (CM2.out _ BR.out).mono ?_); rintro e wd ⟨rfl, bd⟩; have BT := Lib.hid (BR.out.trans (bd.mono BR.out.size)); clear bd)
        refine hK.out _ _ (SS.out _ BT.out) (fun hHeld => ?_)
        clear hK K
        try simp only [Act.put, List.setIfInBounds_toArray, List.set_cons_zero, List.set_cons_succ]
        refine wpAnyH_take (i := 14) (oi := ?_) (v := ?_) ?_ ?_ ?_ ?_ ?_ ?_ ?_ ?_
        rotate_left 2
        · simp only [List.getElem?_toArray, List.getElem?_cons_succ, List.getElem?_cons_zero]; rfl
        · kernel_rfl
        · kernel_rfl
        · kernel_rfl
        · exact fun _ _ _ h => h
        · refine Or.inl ⟨by rfl, ?_⟩
          intro w' hSw
          (try dsimp only at hSw)
          go_simp
          all_goals (with_reducible rfl)
        · assumption
        try simp only [Act.put, List.setIfInBounds_toArray, List.set_cons_zero, List.set_cons_succ]
        refine wpAnyH_take (i := 15) (oi := ?_) (v := ?_) ?_ ?_ ?_ ?_ ?_ ?_ ?_ ?_
        rotate_left 2
        · simp only [List.getElem?_toArray, List.getElem?_cons_succ, List.getElem?_cons_zero]; rfl
        · kernel_rfl
        · kernel_rfl
        · kernel_rfl
        · exact fun _ _ _ h => h
        · refine Or.inl ⟨by rfl, ?_⟩
          intro w' hSw
          (try dsimp only at hSw)
          go_simp
          all_goals (with_reducible rfl)
        · assumption
        try simp only [Act.put, List.setIfInBounds_toArray, List.set_cons_zero, List.set_cons_succ]
        refine wpAnyH_take (i := 16) (oi := ?_) (v := ?_) ?_ ?_ ?_ ?_ ?_ ?_ ?_ ?_
        rotate_left 2
        · simp only [List.getElem?_toArray, List.getElem?_cons_succ, List.getElem?_cons_zero]; rfl
        · kernel_rfl
        · kernel_rfl
        · kernel_rfl
        · exact fun _ _ _ h => h
        · refine Or.inl ⟨by rfl, ?_⟩
          intro w' hSw
          (try dsimp only at hSw)
          go_simp
          all_goals (with_reducible rfl)
        · assumption
        try simp only [Act.put, List.setIfInBounds_toArray, List.set_cons_zero, List.set_cons_succ]
        refine wpAnyH_take (i := 17) (oi := ?_) (v := ?_) ?_ ?_ ?_ ?_ ?_ ?_ ?_ ?_
        rotate_left 2
        · simp only [List.getElem?_toArray, List.getElem?_cons_succ, List.getElem?_cons_zero]; rfl
        · kernel_rfl
        · kernel_rfl
        · kernel_rfl
        · exact fun _ _ _ h => h
        · refine Or.inl ⟨by rfl, ?_⟩
          intro w' hSw
          (try dsimp only at hSw)
          go_simp
          all_goals (with_reducible rfl)
        · assumption
        try simp only [Act.put, List.setIfInBounds_toArray, List.set_cons_zero, List.set_cons_succ]
        refine wpAnyH_done (by kernel_rfl) ?_ _
        clear hHeld
        go_wp2
        go_ret
        exact ⟨rfl, HB.out.trans (BT.out.mono HB.out.size)⟩
end Go.Proofs.Ytfpknklnbgmflaa
