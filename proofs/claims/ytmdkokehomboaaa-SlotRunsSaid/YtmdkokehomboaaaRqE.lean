/- The law SlotRuns of layer 6 (slot), walked. -/
import Derived.Test.YtmdkokehomboaaaRqF
import Derived.BigRegion
import Derived.Deep.RegionHeld3
namespace Go.Proofs.Ytmdkokehomboaaa
set_option linter.unusedSimpArgs false
set_option linter.unusedVariables false
set_option maxRecDepth 100000
open Go.ChangeShapes Go.WideShapes Go.ChangeAt Go.RowKit
open Ar (inR)
theorem Try.infoA8 : (Try.prog.info? 37).map (fun i => (i.zero, i.size, i.bytes)) = some (some (.agg #[.int .i64 0, .int .i64 0, .int .i64 0, .int .i64 0, .int .i64 0, .int .i64 0, .int .i64 0, .int .i64 0]), 8, 64) := by kernel_rfl
def z8 (_ : Unit) : List Value := [.int .i64 0, .int .i64 0, .int .i64 0, .int .i64 0, .int .i64 0, .int .i64 0, .int .i64 0, .int .i64 0]
theorem z8_tab {k : Nat} (h : 1 ≤ k ∧ k ≤ 4) : (rws z8 (List.replicate k ())).toArray = numC .i64 (Sk.tab (fun _ _ => 0) k 8) := by
  have : k = 1 ∨ k = 2 ∨ k = 3 ∨ k = 4 := by omega
  rcases this with rfl | rfl | rfl | rfl <;> rfl
theorem make8 {k : Nat} (h : 1 ≤ k ∧ k ≤ 4) (w : World) : (Instr.makeSlice 33 (.int .i64 (k : Int)) (.int .i64 (k : Int))).run Try.prog w = .ok (.slice (some ⟨w.heap.size, 0, none⟩) k k) (w.alloc (.cells (numC .i64 (Sk.tab (fun _ _ => 0) k 8)) 37)) := by
  obtain ⟨i0, hi, hz0, hz1, hz2⟩ := info_parts Try.infoA8
  have := make_rws (enc := z8) (m := 8) (fun _ => rfl) (by omega) () (P := Try.prog) (t := 33) (e := 37) rfl Try.underlying33 hi hz0 hz1 hz2 k (by omega) (by omega) w
  rw [z8_tab h] at this
  exact this
set_option maxRecDepth 100000 in
set_option maxHeartbeats 16000000 in
theorem slruns_law (w : World) (A : Option Addr) (n c : Nat) (zs : List Int) (a1 a2 : Int) (A2 : Option Addr) (n2 c2 : Nat) (L : List (ByteArray × Int)) (hr : RdI w .u64 A n c zs) (h1 : inR a1) (h2 : inR a2) (hr2 : RdL w A2 n2 c2 2 encSI L) (hok : ∀ a ∈ L, okSI a) :
    Calls Try.prog 3 #[.slice A n c, .agg #[.int .i64 a1, .int .i64 a2], .slice A2 n2 c2] w fun e w' => e = .returned (.bool true) ∧ Below w.heap.size w w' := by
  have hmx := hr.max
  unfold maxLen at hmx
  have hcp := hr.cap
  have hmx2 := hr2.max
  unfold maxLen at hmx2
  have hcp2 := hr2.cap
  have HR := Lib.hid hr
  have HR2 := Lib.hid hr2
  have HO := Lib.hid hok
  obtain ⟨m0, hm0⟩ : ∃ k : Nat, a1 % 4 = (k : Int) := ⟨(a1 % 4).toNat, by omega⟩
  have eb0 : bits BinOp.and IntKind.i64 a1 3 = (m0 : Int) := by rw [i64_mask2, hm0]
  obtain ⟨m1, hm1⟩ : ∃ k : Nat, a2 % 8 = (k : Int) := ⟨(a2 % 8).toNat, by omega⟩
  have eb1 : bits BinOp.and IntKind.i64 a2 7 = (m1 : Int) := by rw [i64_mask3, hm1]
  obtain ⟨k, hk⟩ : ∃ k, k = m0 + 1 := ⟨_, rfl⟩
  obtain ⟨W, hW⟩ : ∃ W, W = m1 + 1 := ⟨_, rfl⟩
  have ek : IntKind.i64.wrap ((m0 : Int) + 1) = (k : Int) := by rw [IntKind.wrap_i64]; omega
  have eW : IntKind.i64.wrap ((m1 : Int) + 1) = (W : Int) := by rw [IntKind.wrap_i64]; omega
  have ek' : (m0 : Int) + 1 = (k : Int) := by omega
  have eW' : (m1 : Int) + 1 = (W : Int) := by omega
  have hm0b : (m0 : Int) ≤ 3 := by omega
  have hm1b : (m1 : Int) ≤ 7 := by omega
  have HK := Lib.hid (show (1 ≤ k ∧ k ≤ 4) ∧ (1 ≤ W ∧ W ≤ 8) by omega)
  clear hr hr2 h1 h2 hm0 hm1 hk hW hok
  go_enter Try.func3, Try.ntmps3
  go_upto_region 1 with (fail)
  obtain ⟨w1, hw1, k1, l1, s1⟩ := box_new w #[.int .i64 a1, .int .i64 a2] 23
  rw [hw1]
  obtain ⟨sb, hsb⟩ : ∃ sb, sb = w.heap.size := ⟨_, rfl⟩
  rw [← hsb] at k1 ⊢
  have T1 := Lib.hid (And.intro k1 l1)
  clear k1 l1 s1 hw1 hsb
  go_upto_region 3 with (go_at_call 9; ((refine (slfit_any _).mono ?_); rintro e w2 ⟨rfl, b2⟩; have T2 := Lib.hid (And.intro (T1.out.1.keep b2) (T1.out.2.trans (b2.mono T1.out.2.size))); clear b2))
  have CLi := Lib.hid (light_any A2 n2 c2 L w2 (HR2.out.below T2.out.2) HO.out)
  by_cases hb1 : (60 : Int) < (n : Int)
  · have hund : undef = Value.tuple #[] := rfl
    clear CLi
    go_wp2
    go_ret
    exact ⟨rfl, T2.out.2⟩
  have hb1' : decide ((60 : Int) < (n : Int)) = false := by rw [decide_eq_false_iff_not]; exact hb1
  cases hlb : lightB L with
  | false =>
    rw [hlb] at CLi
    have hund : undef = Value.tuple #[] := rfl
    go_wp2_with (go_at_call 10; ((with_reducible refine CLi.out.mono ?_); rintro e w3 ⟨rfl, b3⟩; have T3 := Lib.hid (T2.out.2.trans (b3.mono T2.out.2.size)); clear b3))
    go_ret
    exact ⟨rfl, T3.out⟩
  | true =>
    rw [hlb] at CLi
    have hlen : L.length ≤ 100 := by unfold lightB at hlb; simp at hlb; exact hlb.1
    have hln := HR2.out.len
    have hb2 : (n2 : Int) ≤ 100 := by omega
    clear hlb hlen hln hb1
    go_upto_region 5 with (go_at_call 10; ((with_reducible refine CLi.out.mono ?_); rintro e w3 ⟨rfl, b3⟩; have T3 := Lib.hid (And.intro (T2.out.1.keep b3) (T2.out.2.trans (b3.mono T2.out.2.size))); clear b3))
    have st := T3.out.1.rd
    obtain ⟨x1, e1, k1, b1, s1⟩ := box_new w3 #[.int .i64 0] 3
    obtain ⟨wx, hwx⟩ : ∃ z, z = w3.heap.size := ⟨_, rfl⟩
    have HWX := Lib.hid hwx
    rw [← hwx] at k1
    have stx := (T3.out.1.keep b1).rd
    have krd := k1.rd
    have kwr := k1.wr
    obtain ⟨w4, e4, k4, f4, s4⟩ := G.box_set k1.drew 0 (.int .i64 W) #[.int .i64 W] rfl
    have hwx' := hwx.symm
    have X4 := Lib.hid (show Blk w4 wx 3 #[.int .i64 W] ∧ Blk w4 sb 23 #[.int .i64 a1, .int .i64 a2] ∧ Below w.heap.size w w4 ∧ w.heap.size ≤ wx from by
      have hlt := lt_of_block T3.out.1
      have hs := T3.out.2.size
      have hb := lt_of_block k1
      exact ⟨k4, ((T3.out.1.keep b1).drew).fr f4 (by omega), T3.out.2.trans (((((Fr.of_below b1 : Fr (fun k => k = wx) w3 x1).drew).trans f4).below (Nat.le_refl _) (fun k hk => by omega)).mono hs), by omega⟩)
    clear CLi hb1' k4 f4 s4 hwx b1 s1
    go_region
    clear st stx krd kwr e1 e4 hwx' k1 T3 T2 T1 eb0 eb1 ek eW ek' eW' hm0b hm1b
    go_upto_region 6 with (fail)
    have CR := Lib.hid (fun wx (hb : Below w.heap.size w wx) => show Calls Try.prog 12 #[.slice A n c, .int .i64 k] wx _ from rows_any wx A n c zs (HR.out.below hb) k (by have := HK.out; omega))
    have CN := Lib.hid (fun b0 wx (hr : RowsAt wx b0 k (rX zs) (rA zs) (rB zs)) => snew_any k W (by have := HK.out; omega) ⟨HK.out.2.1, by have := HK.out; have := Nat.mul_le_mul this.1.2 this.2.2; omega⟩ b0 _ _ _ wx hr (rows_lt zs k))
    have D4 := Lib.hid (show Below w4.heap.size w4 w4.drew from below_draws (Below.refl _ _) 1)
    have SW := Lib.hid (fun wq (hb : Below w4.heap.size w4 wq) => show ∀ j, wq.cell? ⟨wx, j, none⟩ = (#[.int .i64 W] : Array Value)[j]? from (X4.out.1.keep hb).rd)
    refine wp_region_held_drew (S := fun wq => ∀ j, wq.cell? ⟨wx, j, none⟩ = (#[.int .i64 W] : Array Value)[j]?) (by kernel_rfl) (SW.out _ D4.out) (fun hHeld => ?_)
    refine wpAnyH_take (i := 0) (oi := ?_) (v := ?_) ?_ ?_ ?_ ?_ ?_ ?_ ?_ ?_
    rotate_left 2
    · simp only [List.getElem?_toArray, List.getElem?_cons_succ, List.getElem?_cons_zero]; rfl
    · kernel_rfl
    · kernel_rfl
    · kernel_rfl
    · exact fun _ _ _ h => h
    · refine Or.inl ⟨by rfl, ?_⟩
      intro w' hSw
      (try dsimp only at hSw)
      go_simp
      all_goals (with_reducible rfl)
    · assumption
    try simp only [Act.put, List.setIfInBounds_toArray, List.set_cons_zero, List.set_cons_succ]
    refine wpAnyH_take (i := 1) (oi := ?_) (v := ?_) ?_ ?_ ?_ ?_ ?_ ?_ ?_ ?_
    rotate_left 2
    · simp only [List.getElem?_toArray, List.getElem?_cons_succ, List.getElem?_cons_zero]; rfl
    · kernel_rfl
    · kernel_rfl
    · kernel_rfl
    · exact fun _ _ _ h => h
    · refine Or.inl ⟨by rfl, ?_⟩
      intro w' hSw
      (try dsimp only at hSw)
      go_simp
      all_goals (with_reducible rfl)
    · assumption
    try simp only [Act.put, List.setIfInBounds_toArray, List.set_cons_zero, List.set_cons_succ]
    refine wpAnyH_take (i := 3) (oi := ?_) (v := ?_) ?_ ?_ ?_ ?_ ?_ ?_ ?_ ?_
    rotate_left 2
    · simp only [List.getElem?_toArray, List.getElem?_cons_succ, List.getElem?_cons_zero]; rfl
    · kernel_rfl
    · kernel_rfl
    · kernel_rfl
    · exact fun _ _ _ h => h
    · refine Or.inl ⟨by rfl, ?_⟩
      intro w' hSw
      (try dsimp only at hSw)
      go_simp
      all_goals (with_reducible rfl)
    · assumption
    try simp only [Act.put, List.setIfInBounds_toArray, List.set_cons_zero, List.set_cons_succ]
    refine wpAnyH_ready (rs := [2]) (by kernel_rfl) (by simp) ?_
    refine AllReadyH.cons (o := ?_) ?_ ?_ ?_
    rotate_left 1
    · simp only [List.getElem?_toArray, List.getElem?_cons_succ, List.getElem?_cons_zero]; rfl
    rotate_left 1
    · exact AllReadyH.nil
    intro K hK
    go_simp
    ((with_reducible refine (CR.out _ (X4.out.2.2.1.trans (D4.out.mono X4.out.2.2.1.size))).mono ?_); rintro e w5 ⟨rfl, r5, b5⟩; have R5 := Lib.hid (show RowsAt w5 w4.heap.size k (rX zs) (rA zs) (rB zs) from r5); have D5 := Lib.hid (D4.out.trans (b5.mono D4.out.size)); clear r5 b5)
    refine hK.out _ _ (SW.out _ D5.out) (fun hHeld => ?_)
    clear hK K
    try simp only [Act.put, List.setIfInBounds_toArray, List.set_cons_zero, List.set_cons_succ]
    refine wpAnyH_ready (rs := [4]) (by kernel_rfl) (by simp) ?_
    refine AllReadyH.cons (o := ?_) ?_ ?_ ?_
    rotate_left 1
    · simp only [List.getElem?_toArray, List.getElem?_cons_succ, List.getElem?_cons_zero]; rfl
    rotate_left 1
    · exact AllReadyH.nil
    intro K hK
    go_simp
    ((with_reducible refine (CN.out _ _ R5.out).mono ?_); rintro e w6 ⟨N, rfl, s6, n1, n2, n3, n4, n5, o1, o2, b6⟩; have D6 := Lib.hid (D5.out.trans (b6.mono D5.out.size)); have S6 := Lib.hid (show S1 w w6 N (fun _ _ => 0) from ⟨s6, (by have := X4.out.2.2.1.size; have := D5.out.size; omega), X4.out.2.2.1.trans (D6.out.mono X4.out.2.2.1.size)⟩); have HN := Lib.hid (show (N.k = k ∧ N.W = W) ∧ N.P = pZ zs W from ⟨⟨n1, n2⟩, (by funext j s; unfold SlN.P pZ; rw [n2, n3, n4, n5])⟩); have HO6 := Lib.hid (show w4.heap.size ≤ N.b ∧ w4.heap.size ≤ N.g from (by have := D5.out.size; omega)); clear s6 n1 n2 n3 n4 n5 o1 o2 b6)
    refine hK.out _ _ (SW.out _ D6.out) (fun hHeld => ?_)
    clear hK K
    try simp only [Act.put, List.setIfInBounds_toArray, List.set_cons_zero, List.set_cons_succ]
    refine wpAnyH_take (i := 5) (oi := ?_) (v := ?_) ?_ ?_ ?_ ?_ ?_ ?_ ?_ ?_
    rotate_left 2
    · simp only [List.getElem?_toArray, List.getElem?_cons_succ, List.getElem?_cons_zero]; rfl
    · kernel_rfl
    · kernel_rfl
    · kernel_rfl
    · exact fun _ _ _ h => h
    · refine Or.inl ⟨by rfl, ?_⟩
      intro w' hSw
      (try dsimp only at hSw)
      go_simp
      all_goals (with_reducible rfl)
    · assumption
    try simp only [Act.put, List.setIfInBounds_toArray, List.set_cons_zero, List.set_cons_succ]
    refine wpAnyH_done (by kernel_rfl) ?_ _
    clear hHeld CR CN R5
    have X6 := Lib.hid (X4.out.1.keep D6.out)
    have NX6 := Lib.hid (show wx ≠ N.b ∧ wx ≠ N.g ∧ w.heap.size ≤ wx from by have := lt_of_block X4.out.1; have := HO6.out; have := X4.out.2.2.2; omega)
    clear X4 SW D4 D5 D6 HO6
    have CQ := Lib.hid (show Calls Try.prog 13 #[.slice A n c, .int .i64 k] w6 _ from R3.rows_any w6 A n c zs (HR.out.below S6.out.bl) k (by have := HK.out; omega))
    go_upto_region 8 with (go_at_call 13; ((with_reducible refine CQ.out.mono ?_); rintro e w7 ⟨v, rfl, o7, b7⟩; obtain ⟨A7, fc, rfl, hc1, hc2, hc3⟩ := o7.slice; rw [List.length_range] at hc3; obtain ⟨fg, rfl, hg1, hg2⟩ := hc3 (by have := HK.out; omega); rw [List.length_range] at o7 ⊢; have O7 := Lib.hid o7; have B7 := Lib.hid b7; clear o7 b7 hc1 hc2 hc3))
    obtain ⟨w8, e8, k8, b8, s8⟩ := box_new w7 #[.slice (some ⟨fg, 0, none⟩) k fc] 31
    rw [e8]
    have hmk := make8 (HK.out.1) w8
    obtain ⟨w9, e9, k9, l9, b9⟩ := two_blkS w8 (numC .i64 (Sk.tab (fun _ _ => 0) k 8)) #[.slice (some ⟨w8.heap.size, 0, none⟩) k k] 37 33
    obtain ⟨fx, hfx⟩ : ∃ z, z = w7.heap.size := ⟨_, rfl⟩
    obtain ⟨gb, hgb⟩ : ∃ z, z = w8.heap.size := ⟨_, rfl⟩
    obtain ⟨nx, hnx⟩ : ∃ z, z = gb + 1 := ⟨_, rfl⟩
    obtain ⟨M, hM⟩ : ∃ M : RfN, M = ⟨nx, fx, wx, gb, fg, fc, k, W⟩ := ⟨_, rfl⟩
    have R9 := Lib.hid (show RS w w9 N M zs (fun _ _ => 0) (fun _ _ => 0) from by
      have q1 := lt_of_block X6.out
      have q2 := B7.out.size
      have q3 := lt_of_block S6.out.at_.hg
      obtain ⟨C, c1, _⟩ := S6.out.at_.hb
      have q4 := lt_of_block c1
      have q5 := NX6.out
      have q6 := S6.out.bl.size
      subst hM
      rw [← hgb] at k9 l9
      rw [← hnx] at l9
      rw [← hfx] at k8
      refine ⟨((S6.out.keep B7.out).keep b8).keep b9, ⟨l9, k8.keep b9, ((X6.out.keep B7.out).keep b8).keep b9, (G.own_more ((O7.out.keep b8).keep b9) q6), k9, by have := HK.out; omega⟩, ?_, ?_, ?_, ?_⟩ <;> simp only [] <;> omega)
    have HM := Lib.hid (show M.nx = nx ∧ M.fx = fx ∧ M.wx = wx ∧ M.k = k ∧ M.W = W from by rw [hM]; exact ⟨rfl, rfl, rfl, rfl, rfl⟩)
    rw [← hfx]
    rw [← hgb] at hmk e9
    have hgx := hgb.symm
    have hnx' := hnx.symm
    clear s8 hgb hnx hfx hM
    go_upto_region 9 with (fail)
    clear hmk e9 k9 l9 b9 e8 k8 b8 hgx hnx' O7 B7 X6 NX6 S6 CQ HR HWX
    have M0 := Lib.hid (show ∃ M' : RfN, Hid (M'.nx = nx ∧ M'.fx = fx ∧ M'.wx = wx ∧ M'.k = k ∧ M'.W = W) ∧ Hid (RS w w9 N M' zs (fun _ _ => 0) (fun _ _ => 0)) from ⟨M, HM, R9⟩)
    clear HM R9
    go_wp2
    go_loopg [50] n2 (fun kk si wr => ∃ (i : Nat) (f : Nat → Nat → Int) (M' : RfN), i ≤ n2 ∧ Hid (kk = n2 - i) ∧ si = .int .i64 (i : Int) ∧ Hid (M'.nx = nx ∧ M'.fx = fx ∧ M'.wx = wx ∧ M'.k = k ∧ M'.W = W) ∧ Hid (RS w wr N M' zs f f))
    case atStart =>
      obtain ⟨M', q1, q2⟩ := M0.out
      exact ⟨0, _, M', by omega, Lib.hid rfl, rfl, q1, q2⟩
    case round =>
      obtain ⟨i, f, M', hi, HKK, rfl, HM, HS⟩ := hrel
      by_cases hin : i < n2
      · have hl2 := HR2.out.len
        obtain ⟨b, off, rfl, hbl, hc⟩ := (HR2.out.below HS.out.s.bl).at_ (by omega)
        obtain ⟨⟨ky, v⟩, ha⟩ : ∃ a, L[i]? = some a := ⟨_, List.getElem?_eq_getElem (by omega)⟩
        have hoka := HO.out _ (List.mem_of_getElem? ha)
        have kr0 : wr.cell? ⟨b, off + i * 2, none⟩ = some (.string ky) := hc i _ ha 0 (by omega)
        have kr1 : wr.cell? ⟨b, off + i * 2 + 1, none⟩ = some (.int .i64 v) := hc i _ ha 1 (by omega)
        unfold okSI at hoka
        simp only at hoka
        obtain ⟨hky, hv⟩ := hoka
        obtain ⟨x1, x2, ex1, kr, kw, ex2, bl2, kc2⟩ := box2 wr 35 (.string ⟨#[]⟩) (.int .i64 0) (.string ky) (.int .i64 v)
        obtain ⟨cx, hcx⟩ : ∃ z, z = wr.heap.size := ⟨_, rfl⟩
        have HIN := Lib.hid hin
        have t2 : (i : Int) < (n2 : Int) := by omega
        have S2 := Lib.hid (HS.out.keep bl2)
        rw [← hcx] at kc2 kr kw ex2
        have C2 := Lib.hid kc2
        have NC := Lib.hid (show cx ≠ N.g ∧ cx ≠ N.b ∧ cx ≠ M'.g ∧ w.heap.size ≤ cx from by
          have l5 := lt_of_block HS.out.s.at_.hg
          obtain ⟨C, c1, _⟩ := HS.out.s.at_.hb
          have l6 := lt_of_block c1
          have l7 := lt_of_block HS.out.r.gb
          have l8 := HS.out.s.bl.size
          omega)
        have HKY := Lib.hid hky
        have AT := Lib.hid (fun (j : Nat) (hj : j < k) (wq : World) (fs fr : Nat → Nat → Int) (h : RS w wq N M' zs fs fr) (hb : Blk wq cx 35 #[.string ky, .int .i64 v]) =>
          show Calls Try.prog 14 #[.int .i64 (j : Int), .pointer (some ⟨nx, 0, none⟩), .pointer (some ⟨fx, 0, none⟩), .pointer (some ⟨cx, 0, none⟩), .pointer (some ⟨wx, 0, none⟩)] wq (fun e w' => e = .returned (.pointer (some ⟨M'.g, j * 8 + N.P j ky, none⟩)) ∧ Below wq.heap.size wq w') from by
            have h1 := at_any M' w.heap.size zs fr cx ky v HKY.out j (by rw [HM.out.2.2.2.1]; exact hj) wq h.r hb
            rw [HM.out.1, HM.out.2.1, HM.out.2.2.1, HM.out.2.2.2.2] at h1
            rw [HN.out.2]
            exact h1)
        have HP8 := Lib.hid (fun (j : Nat) => show N.P j ky < 8 from by have := N.P_lt HS.out.s.at_.bd.2.1 j ky; have h2 := HN.out.1.2; have h3 := HK.out; omega)
        have HVB := Lib.hid hv
        obtain ⟨q0, hq0⟩ : ∃ z, z = 0 * 8 + N.P 0 ky := ⟨_, rfl⟩
        obtain ⟨u0, hu0⟩ : ∃ z, z = f 0 (N.P 0 ky) := ⟨_, rfl⟩
        have AT0 := Lib.hid (show Calls Try.prog 14 #[.int .i64 0, .pointer (some ⟨nx, 0, none⟩), .pointer (some ⟨fx, 0, none⟩), .pointer (some ⟨cx, 0, none⟩), .pointer (some ⟨wx, 0, none⟩)] x2 (fun e w' => e = .returned (.pointer (some ⟨M'.g, q0, none⟩)) ∧ w'.cell? ⟨M'.g, q0, none⟩ = some (.int .i64 u0) ∧ Below x2.heap.size x2 w') from
          (AT.out 0 (by have := HK.out; omega) x2 f f S2.out C2.out).mono (fun e w' h => ⟨by rw [hq0]; exact h.1, by rw [hq0, hu0]; exact (S2.out.keep h.2).at_ (by rw [HM.out.2.2.2.1]; have := HK.out; omega) (HP8.out 0), h.2⟩))
        have HU0 := Lib.hid hu0
        have hcx' := hcx.symm
        clear hl2 hc hbl ha bl2 kc2 hky hv hq0 hu0 hcx
        go_upto_region 14 with (go_at_call 14; ((with_reducible refine AT0.out.mono ?_); rintro e w3 ⟨rfl, c3, b3⟩; have S3 := Lib.hid (S2.out.keep b3); have C3 := Lib.hid (C2.out.keep b3); clear b3))
        -- behind region 14
        clear kr0 kr1 kr kw ex1 ex2 hcx' c3 AT0
        go_wp2
        go_loopg [15, 60] k (fun kk sl sj wr => ∃ (j : Nat) (lj : Int), j ≤ k ∧ Hid (kk = k - j) ∧ sj = .int .i64 (j : Int) ∧ sl = .int .i64 lj ∧ Hid (lj = Sk.leastR f N.P ky (j - 1)) ∧ Hid (RS w wr N M' zs f f) ∧ Hid (Blk wr cx 35 #[.string ky, .int .i64 v]))
        case atStart => exact ⟨0, u0, by omega, Lib.hid rfl, rfl, rfl, Lib.hid HU0.out, S3, C3⟩
        case round =>
          obtain ⟨j, lj, hj, HK2, rfl, rfl, HLJ, SJ, CJ⟩ := hrel
          by_cases hjk : j < k
          · have t3 : (j : Int) < (k : Int) := by omega
            have HJK := Lib.hid hjk
            have hj4 : (j : Int) ≤ 4 := by have := HK.out; omega
            obtain ⟨qj, hqj⟩ : ∃ z, z = j * 8 + N.P j ky := ⟨_, rfl⟩
            obtain ⟨uj, huj⟩ : ∃ z, z = f j (N.P j ky) := ⟨_, rfl⟩
            obtain ⟨l2, hl2⟩ : ∃ z, z = min lj uj := ⟨_, rfl⟩
            have AJ := Lib.hid (show Calls Try.prog 14 #[.int .i64 (j : Int), .pointer (some ⟨nx, 0, none⟩), .pointer (some ⟨fx, 0, none⟩), .pointer (some ⟨cx, 0, none⟩), .pointer (some ⟨wx, 0, none⟩)] wr (fun e w' => e = .returned (.pointer (some ⟨M'.g, qj, none⟩)) ∧ w'.cell? ⟨M'.g, qj, none⟩ = some (.int .i64 uj) ∧ Below wr.heap.size wr w') from
              (AT.out j hjk wr f f SJ.out CJ.out).mono (fun e w' h => ⟨by rw [hqj]; exact h.1, by rw [hqj, huj]; exact (SJ.out.keep h.2).at_ (by rw [HM.out.2.2.2.1]; exact hjk) (HP8.out j), h.2⟩))
            have HL2 := Lib.hid (show l2 = Sk.leastR f N.P ky (j + 1 - 1) from by
              rw [hl2, HLJ.out, huj]
              cases j with
              | zero => show min (f 0 (N.P 0 ky)) (f 0 (N.P 0 ky)) = f 0 (N.P 0 ky); omega
              | succ j => rfl)
            have em : min lj uj = l2 := hl2.symm
            clear hqj huj hl2
            go_wp2_with (go_at_call 14; ((with_reducible refine AJ.out.mono ?_); rintro e wj ⟨rfl, c4, b4⟩; have S4 := Lib.hid (SJ.out.keep b4); have C4 := Lib.hid (CJ.out.keep b4); clear b4))
            go_roundg (k - (j + 1))
            case measure => have := HK2.out; omega
            case rel => exact ⟨j + 1, l2, by have := HJK.out; omega, Lib.hid rfl, by go_num, rfl, HL2, S4, C4⟩
          · have t3 : ¬ (j : Int) < (k : Int) := by omega
            have hje : j = k := by omega
            rw [hje] at HLJ
            have cj := CJ.out.rd
            clear hje
            by_cases hva : v < -1099511627776
            · have d1 : decide (v < -1099511627776) = true := decide_eq_true hva
              have CC := Lib.hid (sclear_any wr SJ.out.s.at_)
              clear hva
              go_upto_region 21 with (go_at_call 16; ((with_reducible refine CC.out.mono ?_); rintro e w5 ⟨rfl, s5, f5⟩; have S5 := Lib.hid (SJ.out.add s5 f5); clear s5 f5))
              clear cj
              obtain ⟨y1, y2, ey1, yrd, ywr, ey2, s6⟩ := S5.out.clr
              have S6 := Lib.hid s6
              simp only [HM.out.1, HM.out.2.2.2.1] at ey1 yrd ywr ey2
              have hmk := make8 (HK.out.1) w5
              clear s6
              go_wp2
              go_roundg (n2 - (i + 1))
              case measure => have := HKK.out; have := HIN.out; omega
              case rel => exact ⟨i + 1, _, { M' with g := w5.heap.size }, HIN.out, Lib.hid rfl, by go_num, Lib.hid HM.out, S6⟩
            · have d1 : decide (v < -1099511627776) = false := decide_eq_false hva
              have CA := Lib.hid (sadd_any ky HKY.out v HVB.out wr SJ.out.s.at_)
              have hle := SJ.out.s.at_.ok.least N.P ky (k - 1)
              rw [← HLJ.out] at hle
              have HSA := Lib.hid (show ∀ z, z = clamp (lj + v) → 0 < v → Sk.add f N.P N.k ky v = Sk.raise f N.P ky z k from fun z hz h0 => by unfold Sk.add; rw [if_neg (by omega), HN.out.1.1, ← HLJ.out, hz])
              have HSE := Lib.hid (show ∀ z, z = clamp (lj + v) → 0 < v → Sk.leastR (Sk.add f N.P N.k ky v) N.P ky (k - 1) = z from fun z hz h0 => by
                have h1 := Sk.add_self SJ.out.s.at_.ok N.P (k := N.k) (by rw [HN.out.1.1]; have := HK.out; omega) ky (c := v) ⟨by omega, HVB.out.2⟩
                rw [HN.out.1.1] at h1 ⊢
                rw [h1, hz, HLJ.out])
              have HSN := Lib.hid (show ¬ 0 < v → Sk.add f N.P N.k ky v = f from fun h0 => by unfold Sk.add; rw [if_pos (by omega)])
              obtain ⟨g, hg⟩ : ∃ g, g = Sk.add f N.P N.k ky v := ⟨_, rfl⟩
              rw [← hg] at CA HSA HSE HSN
              clear hva hg
              go_upto_region 23 with (go_at_call 17; ((with_reducible refine CA.out.mono ?_); rintro e w5 ⟨rfl, s5, f5⟩; have S5 := Lib.hid (SJ.out.add s5 f5); have C5 := Lib.hid (CJ.out.fr f5 NC.out.1); clear s5 f5))
              clear cj d1 t3
              have c5 := C5.out.rd
              have hvb := HVB.out
              obtain ⟨wa, hwa⟩ : ∃ z, z = IntKind.i64.wrap (lj + v) := ⟨_, rfl⟩
              have ewa : IntKind.i64.wrap (lj + v) = wa := hwa.symm
              by_cases hv0 : 0 < v
              · have d2 : decide (0 < v) = true := decide_eq_true hv0
                have HV0 := Lib.hid hv0
                have hcw : (wa < lj → (9223372036854775807 : Int) = clamp (lj + v)) ∧ (¬ wa < lj → wa = clamp (lj + v)) := by
                  have hq := Sk.clamp_pos hle (c := v) ⟨by omega, hvb.2⟩
                  rw [IntKind.wrap_i64] at hwa
                  omega
                by_cases hw : wa < lj
                · have d3 : decide (wa < lj) = true := decide_eq_true hw
                  have h1 := HSA.out _ (hcw.1 hw) hv0
                  have h2 := HSE.out _ (hcw.1 hw) hv0
                  clear HSA HSE HSN
                  have HSA := Lib.hid h1
                  have HSE := Lib.hid h2
                  clear h1 h2 hcw hwa
                  go_upto_region 26 with (fail)
                  clear c5
                  go_wp2
                  go_loopg [18] k (fun kk sj wr => ∃ (j : Nat), j ≤ k ∧ Hid (kk = k - j) ∧ sj = .int .i64 (j : Int) ∧ Hid (RS w wr N M' zs g (Sk.raise f N.P ky 9223372036854775807 j)) ∧ Hid (Blk wr cx 35 #[.string ky, .int .i64 v]))
                  case atStart => exact ⟨0, by omega, Lib.hid rfl, rfl, Lib.hid (by rw [Sk.raise_zero]; exact S5.out), C5⟩
                  case round =>
                    obtain ⟨j, hj, HK3, rfl, SS, CS⟩ := hrel
                    have cs := CS.out.rd
                    by_cases hjk : j < k
                    · have t3 : (j : Int) < (k : Int) := by omega
                      have HJK := Lib.hid hjk
                      have hj4 : (j : Int) ≤ 4 := by have := HK.out; omega
                      have t4 : decide ((j : Int) < (k : Int)) = true := decide_eq_true t3
                      obtain ⟨qj, hqj⟩ : ∃ z, z = j * 8 + N.P j ky := ⟨_, rfl⟩
                      obtain ⟨uj, huj⟩ : ∃ z, z = f j (N.P j ky) := ⟨_, rfl⟩
                      obtain ⟨mj, hmj⟩ : ∃ z, z = max uj 9223372036854775807 := ⟨_, rfl⟩
                      have em : max uj 9223372036854775807 = mj := hmj.symm
                      have HR3 := Lib.hid (Sk.raise_up f N.P ky 9223372036854775807 j)
                      rw [← huj, ← hmj] at HR3
                      have HQ3 := Lib.hid hqj
                      have AJ := Lib.hid (fun (wz : World) (hS : RS w wz N M' zs g (Sk.raise f N.P ky 9223372036854775807 j)) (hC : Blk wz cx 35 #[.string ky, .int .i64 v]) => show Calls Try.prog 14 #[.int .i64 (j : Int), .pointer (some ⟨nx, 0, none⟩), .pointer (some ⟨fx, 0, none⟩), .pointer (some ⟨cx, 0, none⟩), .pointer (some ⟨wx, 0, none⟩)] wz (fun e w' => e = .returned (.pointer (some ⟨M'.g, qj, none⟩)) ∧ w'.cell? ⟨M'.g, qj, none⟩ = some (.int .i64 uj) ∧ Below wz.heap.size wz w') from
                        (AT.out j hjk wz g _ hS hC).mono (fun e w' h => ⟨by rw [hqj]; exact h.1, by rw [hqj, huj, ← Sk.raise_at f N.P ky 9223372036854775807 j]; exact (hS.keep h.2).at_ (by rw [HM.out.2.2.2.1]; exact hjk) (HP8.out j), h.2⟩))
                      clear hqj huj hmj
                      go_wp2_with (first
                        | (go_at_call 14; ((with_reducible refine (AJ.out _ SU.out CU.out).mono ?_); rintro e wv ⟨rfl, zc, bv⟩; obtain ⟨wp, ep, sp, fp⟩ := (SU.out.keep bv).put (i := j) (p := N.P j ky) (by rw [HM.out.2.2.2.1]; exact hjk) (HP8.out j) mj; rw [← HQ3.out] at ep; rw [HR3.out] at sp; have zw := (SU.out.keep bv).r.gb.wr; have SP := Lib.hid sp; have CP := Lib.hid ((CU.out.keep bv).fr fp NC.out.2.2.1); clear bv sp fp))
                        | (go_at_call 14; ((with_reducible refine (AJ.out _ SS.out CS.out).mono ?_); rintro e wu ⟨rfl, zc0, bu⟩; have SU := Lib.hid (SS.out.keep bu); have CU := Lib.hid (CS.out.keep bu); clear bu zc0)))
                      go_roundg (k - (j + 1))
                      case measure => have := HK3.out; omega
                      case rel => exact ⟨j + 1, by have := HJK.out; omega, Lib.hid rfl, by go_num, SP, CP⟩
                    · have t3 : ¬ (j : Int) < (k : Int) := by omega
                      have t4 : decide ((j : Int) < (k : Int)) = false := decide_eq_false t3
                      have hje : j = k := by omega
                      have S7 := Lib.hid (show RS w wr N M' zs g g from by have h := SS.out; rw [hje, ← HSA.out] at h; exact h)
                      have C7 := CS
                      clear SS
                      go_wp2
                      go_loopg [118] k (fun kk sj wr => ∃ (j : Nat), j ≤ k ∧ Hid (kk = k - j) ∧ sj = .int .i64 (j : Int) ∧ Hid (RS w wr N M' zs g g) ∧ Hid (Blk wr cx 35 #[.string ky, .int .i64 v]))
                      case atStart => exact ⟨0, by omega, Lib.hid rfl, rfl, S7, C7⟩
                      case round =>
                        obtain ⟨j, hj, HK4, rfl, ST, CT⟩ := hrel
                        have ct := CT.out.rd
                        by_cases hjk : j < k
                        · have t3 : (j : Int) < (k : Int) := by omega
                          have HJK := Lib.hid hjk
                          have hj4 : (j : Int) ≤ 4 := by have := HK.out; omega
                          obtain ⟨qj, hqj⟩ : ∃ z, z = j * 8 + N.P j ky := ⟨_, rfl⟩
                          obtain ⟨uj, huj⟩ : ∃ z, z = g j (N.P j ky) := ⟨_, rfl⟩
                          have CNT := Lib.hid (scount_any j ky HKY.out wr ST.out.s.at_ (by rw [HN.out.1.1]; exact hjk))
                          rw [← huj] at CNT
                          have AJ := Lib.hid (fun (wz : World) (hS : RS w wz N M' zs g g) (hC : Blk wz cx 35 #[.string ky, .int .i64 v]) => show Calls Try.prog 14 #[.int .i64 (j : Int), .pointer (some ⟨nx, 0, none⟩), .pointer (some ⟨fx, 0, none⟩), .pointer (some ⟨cx, 0, none⟩), .pointer (some ⟨wx, 0, none⟩)] wz (fun e w' => e = .returned (.pointer (some ⟨M'.g, qj, none⟩)) ∧ w'.cell? ⟨M'.g, qj, none⟩ = some (.int .i64 uj) ∧ Below wz.heap.size wz w') from
                            (AT.out j hjk wz g g hS hC).mono (fun e w' h => ⟨by rw [hqj]; exact h.1, by rw [hqj, huj]; exact (hS.keep h.2).at_ (by rw [HM.out.2.2.2.1]; exact hjk) (HP8.out j), h.2⟩))
                          clear hqj huj
                          go_wp2_with (first
                            | (go_at_call 18; ((with_reducible refine CNT.out.mono ?_); rintro e wu ⟨rfl, bu⟩; have SU := Lib.hid (ST.out.keep bu); have CU := Lib.hid (CT.out.keep bu); clear bu))
                            | (go_at_call 14; ((with_reducible refine (AJ.out _ SU.out CU.out).mono ?_); rintro e wv ⟨rfl, cv, bv⟩; have SV := Lib.hid (SU.out.keep bv); have CV := Lib.hid (CU.out.keep bv); clear bv)))
                          go_roundg (k - (j + 1))
                          case measure => have := HK4.out; omega
                          case rel => exact ⟨j + 1, by have := HJK.out; omega, Lib.hid rfl, by go_num, SV, CV⟩
                        · have t3 : ¬ (j : Int) < (k : Int) := by omega
                          have t4 : decide ((j : Int) < (k : Int)) = false := decide_eq_false t3
                          have CLE := Lib.hid (fun (h0 : 0 < v) => (sleast_any ky HKY.out wr ST.out.s.at_))
                          rw [HN.out.1.1] at CLE
                          go_wp2_with (first
                            | (go_at_call 19; ((with_reducible refine (CLE.out HV0.out).mono ?_); rintro e wu ⟨rfl, bu⟩; rw [HSE.out]; have ST2 := Lib.hid (ST.out.keep bu); clear bu)))
                          go_roundg (n2 - (i + 1))
                          case measure => have := HKK.out; have := HIN.out; omega
                          case rel => first | exact ⟨i + 1, g, M', HIN.out, Lib.hid rfl, by go_num, HM, ST2⟩ | exact ⟨i + 1, g, M', HIN.out, Lib.hid rfl, by go_num, HM, ST⟩
                · have d3 : decide (wa < lj) = false := decide_eq_false hw
                  have h1 := HSA.out _ (hcw.2 hw) hv0
                  have h2 := HSE.out _ (hcw.2 hw) hv0
                  clear HSA HSE HSN
                  have HSA := Lib.hid h1
                  have HSE := Lib.hid h2
                  clear h1 h2 hcw hwa
                  go_upto_region 26 with (fail)
                  clear c5
                  go_wp2
                  go_loopg [18] k (fun kk sj wr => ∃ (j : Nat), j ≤ k ∧ Hid (kk = k - j) ∧ sj = .int .i64 (j : Int) ∧ Hid (RS w wr N M' zs g (Sk.raise f N.P ky wa j)) ∧ Hid (Blk wr cx 35 #[.string ky, .int .i64 v]))
                  case atStart => exact ⟨0, by omega, Lib.hid rfl, rfl, Lib.hid (by rw [Sk.raise_zero]; exact S5.out), C5⟩
                  case round =>
                    obtain ⟨j, hj, HK3, rfl, SS, CS⟩ := hrel
                    have cs := CS.out.rd
                    by_cases hjk : j < k
                    · have t3 : (j : Int) < (k : Int) := by omega
                      have HJK := Lib.hid hjk
                      have hj4 : (j : Int) ≤ 4 := by have := HK.out; omega
                      have t4 : decide ((j : Int) < (k : Int)) = true := decide_eq_true t3
                      obtain ⟨qj, hqj⟩ : ∃ z, z = j * 8 + N.P j ky := ⟨_, rfl⟩
                      obtain ⟨uj, huj⟩ : ∃ z, z = f j (N.P j ky) := ⟨_, rfl⟩
                      obtain ⟨mj, hmj⟩ : ∃ z, z = max uj wa := ⟨_, rfl⟩
                      have em : max uj wa = mj := hmj.symm
                      have HR3 := Lib.hid (Sk.raise_up f N.P ky wa j)
                      rw [← huj, ← hmj] at HR3
                      have HQ3 := Lib.hid hqj
                      have AJ := Lib.hid (fun (wz : World) (hS : RS w wz N M' zs g (Sk.raise f N.P ky wa j)) (hC : Blk wz cx 35 #[.string ky, .int .i64 v]) => show Calls Try.prog 14 #[.int .i64 (j : Int), .pointer (some ⟨nx, 0, none⟩), .pointer (some ⟨fx, 0, none⟩), .pointer (some ⟨cx, 0, none⟩), .pointer (some ⟨wx, 0, none⟩)] wz (fun e w' => e = .returned (.pointer (some ⟨M'.g, qj, none⟩)) ∧ w'.cell? ⟨M'.g, qj, none⟩ = some (.int .i64 uj) ∧ Below wz.heap.size wz w') from
                        (AT.out j hjk wz g _ hS hC).mono (fun e w' h => ⟨by rw [hqj]; exact h.1, by rw [hqj, huj, ← Sk.raise_at f N.P ky wa j]; exact (hS.keep h.2).at_ (by rw [HM.out.2.2.2.1]; exact hjk) (HP8.out j), h.2⟩))
                      clear hqj huj hmj
                      go_wp2_with (first
                        | (go_at_call 14; ((with_reducible refine (AJ.out _ SU.out CU.out).mono ?_); rintro e wv ⟨rfl, zc, bv⟩; obtain ⟨wp, ep, sp, fp⟩ := (SU.out.keep bv).put (i := j) (p := N.P j ky) (by rw [HM.out.2.2.2.1]; exact hjk) (HP8.out j) mj; rw [← HQ3.out] at ep; rw [HR3.out] at sp; have zw := (SU.out.keep bv).r.gb.wr; have SP := Lib.hid sp; have CP := Lib.hid ((CU.out.keep bv).fr fp NC.out.2.2.1); clear bv sp fp))
                        | (go_at_call 14; ((with_reducible refine (AJ.out _ SS.out CS.out).mono ?_); rintro e wu ⟨rfl, zc0, bu⟩; have SU := Lib.hid (SS.out.keep bu); have CU := Lib.hid (CS.out.keep bu); clear bu zc0)))
                      go_roundg (k - (j + 1))
                      case measure => have := HK3.out; omega
                      case rel => exact ⟨j + 1, by have := HJK.out; omega, Lib.hid rfl, by go_num, SP, CP⟩
                    · have t3 : ¬ (j : Int) < (k : Int) := by omega
                      have t4 : decide ((j : Int) < (k : Int)) = false := decide_eq_false t3
                      have hje : j = k := by omega
                      have S7 := Lib.hid (show RS w wr N M' zs g g from by have h := SS.out; rw [hje, ← HSA.out] at h; exact h)
                      have C7 := CS
                      clear SS
                      go_wp2
                      go_loopg [118] k (fun kk sj wr => ∃ (j : Nat), j ≤ k ∧ Hid (kk = k - j) ∧ sj = .int .i64 (j : Int) ∧ Hid (RS w wr N M' zs g g) ∧ Hid (Blk wr cx 35 #[.string ky, .int .i64 v]))
                      case atStart => exact ⟨0, by omega, Lib.hid rfl, rfl, S7, C7⟩
                      case round =>
                        obtain ⟨j, hj, HK4, rfl, ST, CT⟩ := hrel
                        have ct := CT.out.rd
                        by_cases hjk : j < k
                        · have t3 : (j : Int) < (k : Int) := by omega
                          have HJK := Lib.hid hjk
                          have hj4 : (j : Int) ≤ 4 := by have := HK.out; omega
                          obtain ⟨qj, hqj⟩ : ∃ z, z = j * 8 + N.P j ky := ⟨_, rfl⟩
                          obtain ⟨uj, huj⟩ : ∃ z, z = g j (N.P j ky) := ⟨_, rfl⟩
                          have CNT := Lib.hid (scount_any j ky HKY.out wr ST.out.s.at_ (by rw [HN.out.1.1]; exact hjk))
                          rw [← huj] at CNT
                          have AJ := Lib.hid (fun (wz : World) (hS : RS w wz N M' zs g g) (hC : Blk wz cx 35 #[.string ky, .int .i64 v]) => show Calls Try.prog 14 #[.int .i64 (j : Int), .pointer (some ⟨nx, 0, none⟩), .pointer (some ⟨fx, 0, none⟩), .pointer (some ⟨cx, 0, none⟩), .pointer (some ⟨wx, 0, none⟩)] wz (fun e w' => e = .returned (.pointer (some ⟨M'.g, qj, none⟩)) ∧ w'.cell? ⟨M'.g, qj, none⟩ = some (.int .i64 uj) ∧ Below wz.heap.size wz w') from
                            (AT.out j hjk wz g g hS hC).mono (fun e w' h => ⟨by rw [hqj]; exact h.1, by rw [hqj, huj]; exact (hS.keep h.2).at_ (by rw [HM.out.2.2.2.1]; exact hjk) (HP8.out j), h.2⟩))
                          clear hqj huj
                          go_wp2_with (first
                            | (go_at_call 18; ((with_reducible refine CNT.out.mono ?_); rintro e wu ⟨rfl, bu⟩; have SU := Lib.hid (ST.out.keep bu); have CU := Lib.hid (CT.out.keep bu); clear bu))
                            | (go_at_call 14; ((with_reducible refine (AJ.out _ SU.out CU.out).mono ?_); rintro e wv ⟨rfl, cv, bv⟩; have SV := Lib.hid (SU.out.keep bv); have CV := Lib.hid (CU.out.keep bv); clear bv)))
                          go_roundg (k - (j + 1))
                          case measure => have := HK4.out; omega
                          case rel => exact ⟨j + 1, by have := HJK.out; omega, Lib.hid rfl, by go_num, SV, CV⟩
                        · have t3 : ¬ (j : Int) < (k : Int) := by omega
                          have t4 : decide ((j : Int) < (k : Int)) = false := decide_eq_false t3
                          have CLE := Lib.hid (fun (h0 : 0 < v) => (sleast_any ky HKY.out wr ST.out.s.at_))
                          rw [HN.out.1.1] at CLE
                          go_wp2_with (first
                            | (go_at_call 19; ((with_reducible refine (CLE.out HV0.out).mono ?_); rintro e wu ⟨rfl, bu⟩; rw [HSE.out]; have ST2 := Lib.hid (ST.out.keep bu); clear bu)))
                          go_roundg (n2 - (i + 1))
                          case measure => have := HKK.out; have := HIN.out; omega
                          case rel => first | exact ⟨i + 1, g, M', HIN.out, Lib.hid rfl, by go_num, HM, ST2⟩ | exact ⟨i + 1, g, M', HIN.out, Lib.hid rfl, by go_num, HM, ST⟩
              · have d2 : decide (0 < v) = false := decide_eq_false hv0
                have h1 := HSN.out (by omega)
                rw [← h1] at S5
                clear h1 hwa HSA HSE HSN
                go_upto_region 26 with (fail)
                clear c5
                go_wp2
                go_loopg [18] 0 (fun kk sj wr => kk = 0 ∧ sj = .int .i64 0 ∧ Hid (RS w wr N M' zs g g) ∧ Hid (Blk wr cx 35 #[.string ky, .int .i64 v]))
                case atStart => exact ⟨rfl, rfl, S5, C5⟩
                case round =>
                  obtain ⟨hk0, rfl, S7, C7⟩ := hrel
                  have cs := C7.out.rd
                  have t4 : decide ((0 : Int) < (k : Int)) = true := by rw [decide_eq_true_iff]; have := HK.out; omega
                  have t5 : (0 : Int) < (k : Int) := by have := HK.out; omega
                  have t6 : 0 < k := by have := HK.out; omega
                  have t7 : decide (0 < k) = true := decide_eq_true t6
                  go_wp2
                  go_loopg [118] k (fun kk sj wr => ∃ (j : Nat), j ≤ k ∧ Hid (kk = k - j) ∧ sj = .int .i64 (j : Int) ∧ Hid (RS w wr N M' zs g g) ∧ Hid (Blk wr cx 35 #[.string ky, .int .i64 v]))
                  case atStart => exact ⟨0, by omega, Lib.hid rfl, rfl, S7, C7⟩
                  case round =>
                    obtain ⟨j, hj, HK4, rfl, ST, CT⟩ := hrel
                    have ct := CT.out.rd
                    by_cases hjk : j < k
                    · have t3 : (j : Int) < (k : Int) := by omega
                      have HJK := Lib.hid hjk
                      have hj4 : (j : Int) ≤ 4 := by have := HK.out; omega
                      obtain ⟨qj, hqj⟩ : ∃ z, z = j * 8 + N.P j ky := ⟨_, rfl⟩
                      obtain ⟨uj, huj⟩ : ∃ z, z = g j (N.P j ky) := ⟨_, rfl⟩
                      have CNT := Lib.hid (scount_any j ky HKY.out wr ST.out.s.at_ (by rw [HN.out.1.1]; exact hjk))
                      rw [← huj] at CNT
                      have AJ := Lib.hid (fun (wz : World) (hS : RS w wz N M' zs g g) (hC : Blk wz cx 35 #[.string ky, .int .i64 v]) => show Calls Try.prog 14 #[.int .i64 (j : Int), .pointer (some ⟨nx, 0, none⟩), .pointer (some ⟨fx, 0, none⟩), .pointer (some ⟨cx, 0, none⟩), .pointer (some ⟨wx, 0, none⟩)] wz (fun e w' => e = .returned (.pointer (some ⟨M'.g, qj, none⟩)) ∧ w'.cell? ⟨M'.g, qj, none⟩ = some (.int .i64 uj) ∧ Below wz.heap.size wz w') from
                        (AT.out j hjk wz g g hS hC).mono (fun e w' h => ⟨by rw [hqj]; exact h.1, by rw [hqj, huj]; exact (hS.keep h.2).at_ (by rw [HM.out.2.2.2.1]; exact hjk) (HP8.out j), h.2⟩))
                      clear hqj huj
                      go_wp2_with (first
                        | (go_at_call 18; ((with_reducible refine CNT.out.mono ?_); rintro e wu ⟨rfl, bu⟩; have SU := Lib.hid (ST.out.keep bu); have CU := Lib.hid (CT.out.keep bu); clear bu))
                        | (go_at_call 14; ((with_reducible refine (AJ.out _ SU.out CU.out).mono ?_); rintro e wv ⟨rfl, cv, bv⟩; have SV := Lib.hid (SU.out.keep bv); have CV := Lib.hid (CU.out.keep bv); clear bv)))
                      go_roundg (k - (j + 1))
                      case measure => have := HK4.out; omega
                      case rel => exact ⟨j + 1, by have := HJK.out; omega, Lib.hid rfl, by go_num, SV, CV⟩
                    · have t3 : ¬ (j : Int) < (k : Int) := by omega
                      have t4 : decide ((j : Int) < (k : Int)) = false := decide_eq_false t3
                      have CLE := Lib.hid (fun (h0 : 0 < v) => (sleast_any ky HKY.out wr ST.out.s.at_))
                      rw [HN.out.1.1] at CLE
                      go_wp2_with (first
                        | (go_at_call 19; ((with_reducible refine (CLE.out HV0.out).mono ?_); rintro e wu ⟨rfl, bu⟩; rw [HSE.out]; have ST2 := Lib.hid (ST.out.keep bu); clear bu)))
                      go_roundg (n2 - (i + 1))
                      case measure => have := HKK.out; have := HIN.out; omega
                      case rel => first | exact ⟨i + 1, g, M', HIN.out, Lib.hid rfl, by go_num, HM, ST2⟩ | exact ⟨i + 1, g, M', HIN.out, Lib.hid rfl, by go_num, HM, ST⟩
      · have hie : i = n2 := by omega
        have t2 : ¬ (i : Int) < (n2 : Int) := by omega
        have CM := Lib.hid (scount_no (-1) (by omega) ⟨#[97]⟩ wr HS.out.s.at_ (by omega))
        have CK := Lib.hid (scount_no (k : Int) (by have := HK.out; omega) ⟨#[97]⟩ wr HS.out.s.at_ (by have := HN.out.1.1; omega))
        go_wp2_with (first
          | (go_at_call 18; first
            | ((with_reducible refine CM.out.mono ?_); rintro e wu ⟨rfl, rfl⟩)
            | ((with_reducible refine CK.out.mono ?_); rintro e wu ⟨rfl, rfl⟩)))
        go_ret
        exact ⟨rfl, HS.out.s.bl⟩
end Go.Proofs.Ytmdkokehomboaaa
