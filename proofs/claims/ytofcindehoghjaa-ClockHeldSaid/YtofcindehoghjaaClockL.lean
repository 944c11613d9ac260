/- The laws of layer 11 (clock), walked. -/
import Derived.Test.YtofcindehoghjaaClock
import Derived.Test.YtofcindehoghjaaLift
import Derived.Test.YtofcindehoghjaaBits
import Derived.Deep.LoopGhost
import Derived.Deep.CutRange
namespace Go.Proofs.Ytofcindehoghjaa
open Go.ChangeShapes Go.WideShapes Go.ChangeAt Go.RowKit
open Ar (inR)

theorem fit_any (w : World) : Calls Try.prog 7 #[] w fun e w' => e = .returned (.bool true) ∧ Below w.heap.size w w' := by
  have c1 : ∀ w' : World, Clk w' w.heap.size 0 0 false true → Calls Try.prog 11 #[.pointer (some ⟨w.heap.size, 0, none⟩), .int .i64 5] w' fun e w'' => e = .returned (.int .i64 5) ∧ Clk w'' w.heap.size 5 5 true true ∧ Fr (fun k => k = w.heap.size) w' w'' :=
    fun w' h => read_c h 5 (by unfold inR; omega)
  have c2 : ∀ w' : World, Clk w' w.heap.size 5 5 true true → Calls Try.prog 10 #[.pointer (some ⟨w.heap.size, 0, none⟩), .int .i64 10] w' fun e w'' => e = .returned (.int .i64 10) ∧ ∃ n, w'' = w'.drewN n :=
    fun w' h => held_c h 10 (by omega)
  have c3 : ∀ w' : World, Clk w' w.heap.size 5 5 true true → Calls Try.prog 11 #[.pointer (some ⟨w.heap.size, 0, none⟩), .int .i64 9] w' fun e w'' => e = .returned (.int .i64 9) ∧ Clk w'' w.heap.size 9 5 true true ∧ Fr (fun k => k = w.heap.size) w' w'' :=
    fun w' h => read_c h 9 (by unfold inR; omega)
  have c4 : ∀ w' : World, Clk w' w.heap.size 9 5 true true → Calls Try.prog 10 #[.pointer (some ⟨w.heap.size, 0, none⟩), .int .i64 10] w' fun e w'' => e = .returned (.int .i64 6) ∧ ∃ n, w'' = w'.drewN n :=
    fun w' h => held_c h 10 (by omega)
  have C1 := Lib.hid c1
  have C2 := Lib.hid c2
  have C3 := Lib.hid c3
  have C4 := Lib.hid c4
  clear c1 c2 c3 c4
  go_enter Try.func7, Try.ntmps7
  go_wp2_with (first
    | (go_at_call 8; refine (restart_c (Clk.new _)).mono ?_; rintro e w1 ⟨rfl, h1, f1⟩)
    | (go_at_call 11; first | ((with_reducible refine (C1.out _ ?_).mono ?_); (focus assumption); rintro e w2 ⟨rfl, h2, f2⟩) | ((with_reducible refine (C3.out _ ?_).mono ?_); (focus exact h2.drewN _); rintro e w3 ⟨rfl, h3, f3⟩))
    | (go_at_call 10; first | ((with_reducible refine (C2.out _ ?_).mono ?_); (focus assumption); rintro e w' ⟨rfl, n1, rfl⟩) | ((with_reducible refine (C4.out _ ?_).mono ?_); (focus assumption); rintro e w' ⟨rfl, n2, rfl⟩))
    | (go_at_call 9; refine (now_c (h3.drewN _)).mono ?_; rintro e w' ⟨rfl, rfl⟩))
  go_ret
  refine ⟨rfl, ?_⟩
  have f := ((((Fr.refl (fun k => k = w.heap.size) w).alloc _).trans f1).trans f2).drewN n1
  exact ((f.trans f3).drewN n2).below (Nat.le_refl _) (fun k hk => by omega)
theorem over_law (w : World) (A : Option Addr) (n c : Nat) (zs : List Int) (hr : RdI w .i64 A n c zs) :
    Calls Try.prog 6 #[.slice A n c] w fun e w' => e = .returned (.bool true) ∧ Below w.heap.size w w' := by
  have hcap := hr.cap
  have hmax := hr.max
  unfold maxLen at hmax
  have HR := Lib.hid hr
  clear hr
  by_cases hn : 300 < n
  · go_enter Try.func6, Try.ntmps6
    go_wp2_with (first | (go_at_call 7; refine (fit_any _).mono ?_; rintro e w1 ⟨rfl, b1⟩))
    all_goals (first | (exfalso; omega) | (go_ret; exact ⟨rfl, b1⟩))
  · have hn2 : n ≤ 300 := by omega
    clear hn
    go_enter Try.func6, Try.ntmps6
    go_wp2_with (first | (go_at_call 7; refine (fit_any _).mono ?_; rintro e w1 ⟨rfl, b1⟩; have B1 := Lib.hid b1; clear b1))
    go_loopg [4, 14] n (fun k so si wr => ∃ (i : Nat) (now first : Int) (rd : Bool), i ≤ n ∧ k = n - i ∧ si = .int .i64 (i : Int) ∧ so = .bool (decide (4611686018427387904 ≤ now)) ∧ Clk wr w1.heap.size now first rd false ∧ Fr (fun k => k = w1.heap.size) w1 wr)
    case atStart => exact ⟨0, 0, 0, false, by omega, by omega, rfl, rfl, Clk.new _, (Fr.refl _ _).alloc _⟩
    case round =>
      obtain ⟨i, now, first, rd, hi, hk, rfl, rfl, hC, hF⟩ := hrel
      have HK := Lib.hid hk
      clear hk
      by_cases hin : i < n
      · obtain ⟨b0, off, hA, hlt, hcell⟩ := HR.out.at_ (by omega)
        subst hA
        obtain ⟨z, hz⟩ : ∃ z, z = zs.getD i 0 := ⟨_, rfl⟩
        have hzw := bounds_i64 (HR.out.wf_at hin)
        have hc := hcell i hin
        rw [← hz] at hzw hc
        have hb1 := B1.out.size
        have hcr : wr.cell? ⟨b0, off + i, none⟩ = some (.int .i64 z) := by
          rw [hF.cell (by omega) (by omega), B1.out.cell (p := ⟨b0, off + i, none⟩) hlt]; exact hc
        clear hz hc hcell
        have HF := Lib.hid hF
        clear hF
        have HC := Lib.hid hC
        clear hC
        by_cases g1 : 4611686018427387904 ≤ now
        · have t1 : decide (4611686018427387904 ≤ now) = true := by rw [decide_eq_true_eq]; exact g1
          have t2 : decide (4611686018427387904 ≤ max now z) = true := by rw [decide_eq_true_eq]; omega
          clear g1
          go_wp2_with (first
            | (go_at_call 11; refine (read_c HC.out _ hzw).mono ?_; rintro e w2 ⟨rfl, h2, f2⟩)
            | (go_at_call 12; refine (over_c h2).mono ?_; rintro e w' ⟨rfl, rfl⟩))
          go_roundg (n - (i + 1))
          case measure => have := HK.out; omega
          case rel => exact ⟨i + 1, _, _, true, by omega, by omega, by go_num, by rw [t2], h2, HF.out.trans f2⟩
        · have t1 : decide (4611686018427387904 ≤ now) = false := by rw [decide_eq_false_iff_not]; exact g1
          by_cases g2 : 4611686018427387904 ≤ z
          · have t2 : decide (4611686018427387904 ≤ max now z) = true := by rw [decide_eq_true_eq]; omega
            have t3 : decide (4611686018427387904 ≤ z) = true := by rw [decide_eq_true_eq]; exact g2
            clear g1 g2
            go_wp2_with (first
                | (go_at_call 11; refine (read_c HC.out _ hzw).mono ?_; rintro e w2 ⟨rfl, h2, f2⟩)
                | (go_at_call 12; refine (over_c h2).mono ?_; rintro e w' ⟨rfl, rfl⟩))
            go_roundg (n - (i + 1))
            case measure => have := HK.out; omega
            case rel => exact ⟨i + 1, _, _, true, by omega, by omega, by go_num, by rw [t2], h2, HF.out.trans f2⟩
          · have t2 : decide (4611686018427387904 ≤ max now z) = false := by rw [decide_eq_false_iff_not]; omega
            have t3 : decide (4611686018427387904 ≤ z) = false := by rw [decide_eq_false_iff_not]; exact g2
            clear g1 g2
            go_wp2_with (first
                | (go_at_call 11; refine (read_c HC.out _ hzw).mono ?_; rintro e w2 ⟨rfl, h2, f2⟩)
                | (go_at_call 12; refine (over_c h2).mono ?_; rintro e w' ⟨rfl, rfl⟩))
            go_roundg (n - (i + 1))
            case measure => have := HK.out; omega
            case rel => exact ⟨i + 1, _, _, true, by omega, by omega, by go_num, by rw [t2], h2, HF.out.trans f2⟩
      · have HF := Lib.hid hF
        clear hF
        have HC := Lib.hid hC
        clear hC
        go_wp2_with (first
          | (go_at_call 8; refine (restart_c HC.out).mono ?_; rintro e w2 ⟨rfl, h2, f2⟩)
          | (go_at_call 12; refine (over_c h2).mono ?_; rintro e w' ⟨rfl, rfl⟩))
        go_ret
        exact ⟨rfl, B1.out.trans (((HF.out.trans f2).below (Nat.le_refl _) (fun k hk => by omega)).mono B1.out.size)⟩

theorem heldV_no (a b c : Int) : heldV a b c false = 0 := rfl
theorem rises_law (w : World) (A : Option Addr) (n c : Nat) (zs : List Int) (win : Int) (hr : RdI w .i64 A n c zs) (hw : inR win) :
    Calls Try.prog 4 #[.slice A n c, .int .i64 win] w fun e w' => e = .returned (.bool true) ∧ Below w.heap.size w w' := by
  have hcap := hr.cap
  have hmax := hr.max
  unfold maxLen at hmax
  have HR := Lib.hid hr
  clear hr
  unfold inR at hw
  obtain ⟨wi, hwi⟩ : ∃ x, x = win % 4611686018427387904 := ⟨_, rfl⟩
  have em : bits .and .i64 win 4611686018427387903 = wi := by rw [hwi]; exact i64_mask62 win
  have hwi2 : 0 ≤ wi ∧ wi < 4611686018427387904 := by omega
  clear hwi
  by_cases hn : 300 < n
  · go_enter Try.func4, Try.ntmps4
    go_wp2_with (first | (go_at_call 7; refine (fit_any _).mono ?_; rintro e w1 ⟨rfl, b1⟩; have B1 := Lib.hid b1; clear b1))
    go_ret
    exact ⟨rfl, B1.out⟩
  · have hn2 : n ≤ 300 := by omega
    clear hn
    go_enter Try.func4, Try.ntmps4
    go_wp2_with (first | (go_at_call 7; refine (fit_any _).mono ?_; rintro e w1 ⟨rfl, b1⟩; have B1 := Lib.hid b1; clear b1))
    clear em
    go_loopg [6, 19] n (fun k sl si wr => ∃ (i : Nat) (now first : Int) (rd : Bool), i ≤ n ∧ k = n - i ∧ si = .int .i64 (i : Int) ∧ sl = .int .i64 now ∧ Clk wr w1.heap.size now first rd false ∧ Fr (fun k => k = w1.heap.size) w1 wr)
    case atStart => exact ⟨0, 0, 0, false, by omega, by omega, rfl, rfl, Clk.new _, (Fr.refl _ _).alloc _⟩
    case round =>
      obtain ⟨i, now, first, rd, hi, hk, rfl, rfl, hC, hF⟩ := hrel
      have HK := Lib.hid hk
      have hn0 := hC.now0
      have hnM := hC.nowM
      have HF := Lib.hid hF
      have HC := Lib.hid hC
      clear hk hC
      by_cases hin : i < n
      · obtain ⟨b0, off, hA, hlt, hcell⟩ := HR.out.at_ (by omega)
        subst hA
        obtain ⟨z, hz⟩ : ∃ z, z = zs.getD i 0 := ⟨_, rfl⟩
        have hzw := bounds_i64 (HR.out.wf_at hin)
        have hc := hcell i hin
        rw [← hz] at hzw hc
        have hb1 := B1.out.size
        have hcr : wr.cell? ⟨b0, off + i, none⟩ = some (.int .i64 z) := by
          rw [hF.cell (by omega) (by omega), B1.out.cell (p := ⟨b0, off + i, none⟩) hlt]; exact hc
        clear hz hc hcell hF
        obtain ⟨m, hm⟩ : ∃ m, m = max now z := ⟨_, rfl⟩
        have hm1 : now ≤ m := by omega
        have hm2 : z ≤ m := by omega
        have cr := read_c HC.out z hzw
        rw [← hm] at cr
        have CR := Lib.hid cr
        clear cr hm
        go_wp2_with (first
            | (go_at_call 11; refine CR.out.mono ?_; rintro e w2 ⟨rfl, h2, f2⟩)
            | (go_at_call 10; refine (held_c (rs := false) h2 wi (by omega)).mono ?_; rw [heldV_no]; rintro e w' ⟨rfl, n1, rfl⟩))
        go_roundg (n - (i + 1))
        case measure => have := HK.out; omega
        case rel => exact ⟨i + 1, m, _, true, by omega, by omega, by go_num, rfl, h2.drewN _, (HF.out.trans f2).drewN _⟩
      · clear hF
        go_wp2_with (first
          | (go_at_call 9; refine (now_c HC.out).mono ?_; rintro e w' ⟨rfl, rfl⟩))
        go_ret
        exact ⟨by simp, B1.out.trans ((HF.out.below (Nat.le_refl _) (fun k hk => by omega)).mono B1.out.size)⟩
theorem heldV_yes {now first win : Int} (h0 : 0 ≤ first) (h1 : first ≤ 1152921504606846975) (h2 : 0 ≤ win) (h3 : win ≤ 1048575) : heldV now first win true = max 0 (first + win - now) := by
  show max 0 (clamp (first + win) - now) = _
  unfold clamp; rw [if_neg (by omega), if_neg (by omega)]
theorem held_law (w : World) (fst : Int) (A : Option Addr) (n c : Nat) (zs : List Int) (win : Int) (hfst : inR fst) (hr : RdI w .i64 A n c zs) (hw : inR win) :
    Calls Try.prog 5 #[.int .i64 fst, .slice A n c, .int .i64 win] w fun e w' => e = .returned (.bool true) ∧ Below w.heap.size w w' := by
  have hcap := hr.cap
  have hmax := hr.max
  unfold maxLen at hmax
  have HR := Lib.hid hr
  clear hr
  unfold inR at hw hfst
  obtain ⟨wi, hwi⟩ : ∃ x, x = win % 1048576 := ⟨_, rfl⟩
  have em : bits .and .i64 win 1048575 = wi := by rw [hwi]; exact i64_mask20 win
  have hwi2 : 0 ≤ wi ∧ wi ≤ 1048575 := by omega
  obtain ⟨fi, hfi⟩ : ∃ x, x = fst % 1152921504606846976 := ⟨_, rfl⟩
  have en : bits .and .i64 fst 1152921504606846975 = fi := by rw [hfi]; exact i64_mask60 fst
  have hfi2 : 0 ≤ fi ∧ fi ≤ 1152921504606846975 := by omega
  clear hwi hfi
  by_cases hn : 200 < n
  · go_enter Try.func5, Try.ntmps5
    go_wp2_with (first | (go_at_call 7; refine (fit_any _).mono ?_; rintro e w1 ⟨rfl, b1⟩; have B1 := Lib.hid b1; clear b1))
    go_ret
    exact ⟨rfl, B1.out⟩
  · have hn2 : n ≤ 200 := by omega
    clear hn
    have c1 : ∀ (b : Nat) (w' : World), Clk w' b 0 0 false false → Calls Try.prog 11 #[.pointer (some ⟨b, 0, none⟩), .int .i64 9] w' fun e w'' => e = .returned (.int .i64 9) ∧ Clk w'' b 9 9 true false ∧ Fr (fun k => k = b) w' w'' :=
      fun b w' h => read_c h 9 (by unfold inR; omega)
    have c2 : ∀ (b : Nat) (w' : World), Clk w' b 0 0 false true → Calls Try.prog 11 #[.pointer (some ⟨b, 0, none⟩), .int .i64 fi] w' fun e w'' => e = .returned (.int .i64 fi) ∧ Clk w'' b fi fi true true ∧ Fr (fun k => k = b) w' w'' := by
      intro b w' h
      have := read_c h fi (by unfold inR; omega)
      have e : max 0 fi = fi := by omega
      rw [e] at this
      exact this
    have C1 := Lib.hid c1
    have C2 := Lib.hid c2
    clear c1 c2
    go_enter Try.func5, Try.ntmps5
    go_wp2_with (first
      | (go_at_call 7; refine (fit_any _).mono ?_; rintro e w1 ⟨rfl, b1⟩; have B1 := Lib.hid b1; clear b1)
      | (go_at_call 11; first | ((with_reducible refine (C1.out _ _ ?_).mono ?_); (focus exact Clk.new _); rintro e w2 ⟨rfl, h2, f2⟩) | ((with_reducible refine (C2.out _ _ ?_).mono ?_); (focus assumption); rintro e w4 ⟨rfl, h4, f4⟩))
      | (go_at_call 8; refine (restart_c h2).mono ?_; rintro e w3 ⟨rfl, h3, f3⟩))
    clear em en
    have f0 := ((((Fr.refl (fun k => k = w1.heap.size) w1).alloc _).trans f2).trans f3).trans f4
    have F0 := Lib.hid f0
    have H4 := Lib.hid h4
    clear f0 f2 f3 f4 h2 h3 h4
    go_loopg [8, 27] n (fun k sl si wr => ∃ (i : Nat) (now : Int), i ≤ n ∧ k = n - i ∧ si = .int .i64 (i : Int) ∧ sl = .int .i64 now ∧ fi ≤ now ∧ now ≤ fi + 4095 * i ∧ Clk wr w1.heap.size now fi true true ∧ Fr (fun k => k = w1.heap.size) w1 wr)
    case atStart => exact ⟨0, fi, by omega, by omega, rfl, rfl, by omega, by omega, H4.out, F0.out⟩
    case round =>
      obtain ⟨i, now, hi, hk, rfl, rfl, hn1, hn3, hC, hF⟩ := hrel
      have HK := Lib.hid hk
      have HF := Lib.hid hF
      have HC := Lib.hid hC
      clear hk hC
      by_cases hin : i < n
      · obtain ⟨b0, off, hA, hlt, hcell⟩ := HR.out.at_ (by omega)
        subst hA
        obtain ⟨z, hz⟩ : ∃ z, z = zs.getD i 0 := ⟨_, rfl⟩
        have hzw := bounds_i64 (HR.out.wf_at hin)
        have hc := hcell i hin
        rw [← hz] at hzw hc
        have hb1 := B1.out.size
        have hcr : wr.cell? ⟨b0, off + i, none⟩ = some (.int .i64 z) := by
          rw [hF.cell (by omega) (by omega), B1.out.cell (p := ⟨b0, off + i, none⟩) hlt]; exact hc
        clear hz hc hcell hF
        obtain ⟨g, hg⟩ : ∃ g, g = z % 4096 := ⟨_, rfl⟩
        have eg : bits .and .i64 z 4095 = g := by rw [hg]; exact i64_mask12 z
        have hg2 : 0 ≤ g ∧ g ≤ 4095 := by omega
        clear hg
        obtain ⟨v1, hv1⟩ : ∃ v, v = max 0 (fi + wi - now) := ⟨_, rfl⟩
        obtain ⟨v2, hv2⟩ : ∃ v, v = max 0 (fi + wi - (now + g)) := ⟨_, rfl⟩
        have cg := held_c HC.out wi (by omega)
        rw [heldV_yes hfi2.1 hfi2.2 hwi2.1 hwi2.2, ← hv1] at cg
        have cr := fun w' (h : Clk w' w1.heap.size now fi true true) => read_c h (now + g) (by unfold inR; omega)
        rw [show max now (now + g) = now + g by omega] at cr
        have ch : ∀ w', Clk w' w1.heap.size (now + g) fi true true → _ := fun w' h => held_c h wi (by omega)
        rw [heldV_yes hfi2.1 hfi2.2 hwi2.1 hwi2.2, ← hv2] at ch
        have CG := Lib.hid cg
        have CR := Lib.hid cr
        have CH := Lib.hid ch
        have hvv : max (v1 - g) 0 = v2 := by omega
        have hv10 : 0 ≤ v1 ∧ v1 ≤ 1048575 := by omega
        clear cg cr ch hv1 hv2
        go_wp2_with (first
            | (go_at_call 11; refine (CR.out _ (HC.out.drewN _)).mono ?_; rintro e w2 ⟨rfl, h2, f2⟩)
            | (go_at_call 10; first | ((with_reducible refine CG.out.mono ?_); rintro e w' ⟨rfl, n1, rfl⟩) | ((with_reducible refine (CH.out _ ?_).mono ?_); (focus assumption); rintro e w' ⟨rfl, n2, rfl⟩)))
        all_goals
          go_roundg (n - (i + 1))
          case measure => have := HK.out; omega
          case rel => exact ⟨i + 1, now + g, by omega, by omega, by go_num, rfl, by omega, by omega, h2.drewN _, ((HF.out.drewN _).trans f2).drewN _⟩
      · clear hF
        obtain ⟨m, hm⟩ : ∃ m, m = max now (fi + wi) := ⟨_, rfl⟩
        have cr := read_c HC.out (fi + wi) (by unfold inR; omega)
        rw [← hm] at cr
        have ch : ∀ w', Clk w' w1.heap.size m fi true true → _ := fun w' h => held_c h wi (by omega)
        rw [heldV_yes hfi2.1 hfi2.2 hwi2.1 hwi2.2, show max 0 (fi + wi - m) = 0 by omega] at ch
        have CR := Lib.hid cr
        have CH := Lib.hid ch
        clear cr ch hm
        go_wp2_with (first
          | (go_at_call 11; refine CR.out.mono ?_; rintro e w2 ⟨rfl, h2, f2⟩)
          | (go_at_call 10; refine (CH.out _ h2).mono ?_; rintro e w' ⟨rfl, n1, rfl⟩))
        go_ret
        exact ⟨rfl, B1.out.trans ((((HF.out.trans f2).drewN n1).below (Nat.le_refl _) (fun k hk => by omega)).mono B1.out.size)⟩
end Go.Proofs.Ytofcindehoghjaa
