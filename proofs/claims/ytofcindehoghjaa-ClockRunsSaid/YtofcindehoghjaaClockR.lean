/- The law ClockRuns of layer 11 (clock), walked. -/
import Derived.Test.YtofcindehoghjaaClockL
import Derived.Deep.CutRange
namespace Go.Proofs.Ytofcindehoghjaa
open Go.ChangeShapes Go.WideShapes Go.ChangeAt Go.RowKit
open Ar (inR)
theorem heldV_small {now first win : Int} (h0 : 0 ≤ first) (h1 : first < 4611686018427387904) (h2 : 0 ≤ win) (h3 : win < 2199023255552) (hm : 0 ≤ now) : heldV now first win true = if now - first < win then first - now + win else 0 := by
  show max 0 (clamp (first + win) - now) = _
  unfold clamp; rw [if_neg (by omega), if_neg (by omega)]
  split <;> omega
set_option maxRecDepth 100000 in
set_option maxHeartbeats 4000000 in
theorem runs_law (w : World) (A : Option Addr) (n c : Nat) (zs : List Int) (A2 : Option Addr) (n2 c2 : Nat) (B : Nat → Bool) (win : Int) (hr : RdI w .i64 A n c zs) (hb : RdB w A2 n2 c2 B) (hw : inR win) :
    Calls Try.prog 3 #[.slice A n c, .slice A2 n2 c2, .int .i64 win] w fun e w' => e = .returned (.bool true) ∧ Below w.heap.size w w' := by
  have hcap := hr.cap
  have hmax := hr.max
  have hcap2 := hb.cap
  have hmax2 := hb.max
  unfold maxLen at hmax hmax2
  have HR := Lib.hid hr
  have HB := Lib.hid hb
  clear hr hb
  unfold inR at hw
  obtain ⟨wi, hwi⟩ : ∃ x, x = win % 2199023255552 := ⟨_, rfl⟩
  have em : bits .and .i64 win 2199023255551 = wi := by rw [hwi]; exact i64_mask41 win
  have hwi2 : 0 ≤ wi ∧ wi < 2199023255552 := by omega
  clear hwi
  by_cases hn : 300 < n
  · go_enter Try.func3, Try.ntmps3
    go_wp2_with (first | (go_at_call 7; refine (fit_any _).mono ?_; rintro e w1 ⟨rfl, b1⟩; have B1 := Lib.hid b1; clear b1))
    go_ret
    exact ⟨rfl, B1.out⟩
  · have hn2 : n ≤ 300 := by omega
    clear hn
    go_enter Try.func3, Try.ntmps3
    go_wp2_with (first
      | (go_at_call 7; refine (fit_any _).mono ?_; rintro e w1 ⟨rfl, b1⟩; have B1 := Lib.hid b1; clear b1))
    clear em
    go_loopg [8, 9, 10, 11, 24] n (fun k s8 s9 s10 s11 si wr => ∃ (i : Nat) (now first : Int) (rd rs : Bool), i ≤ n ∧ k = n - i ∧ si = .int .i64 (i : Int) ∧ s8 = .int .i64 now ∧ s9 = .int .i64 first ∧ s10 = .bool rs ∧ s11 = .bool (!rd) ∧ first ≤ now ∧ Clk wr w1.heap.size now first rd rs ∧ Fr (fun k => k = w1.heap.size) w1 wr)
    case atStart => exact ⟨0, 0, 0, false, false, by omega, by omega, rfl, rfl, rfl, rfl, rfl, by omega, Clk.new _, (Fr.refl _ _).alloc _⟩
    case round =>
      obtain ⟨i, now, first, rd, rs, hi, hk, rfl, rfl, rfl, rfl, rfl, H0, hC, hF⟩ := hrel
      have HK := Lib.hid hk
      have HF := Lib.hid hF
      have HC := Lib.hid hC
      clear hk hC
      by_cases hin : i < n
      · obtain ⟨b0, off, hA, hlt, hcell⟩ := HR.out.at_ (by omega)
        subst hA
        obtain ⟨z, hz⟩ : ∃ z, z = zs.getD i 0 := ⟨_, rfl⟩
        have hzw := bounds_i64 (HR.out.wf_at hin)
        have hc := hcell i hin
        rw [← hz] at hzw hc
        have hb1 := B1.out.size
        have hcr : wr.cell? ⟨b0, off + i, none⟩ = some (.int .i64 z) := by
          rw [hF.cell (by omega) (by omega), B1.out.cell (p := ⟨b0, off + i, none⟩) hlt]; exact hc
        clear hz hc hcell
        have HFF := Lib.hid hF
        clear hF
        go_upto_region 11 with fail
        clear hcr
        go_cut [38] from 29 to 91 (fun s38 wx => s38 = .bool (decide (i < n2) && B i) ∧ wx = wr)
        case first =>
          by_cases h2 : i < n2
          · obtain ⟨b2, off2, hA2, hlt2, hcell2⟩ := HB.out.at_ (by omega)
            subst hA2
            have hc2 : wr.cell? ⟨b2, off2 + i, none⟩ = some (.bool (B i)) := by
              rw [HFF.out.cell (by omega) (by omega), B1.out.cell (p := ⟨b2, off2 + i, none⟩) hlt2]; exact hcell2 i h2
            clear hcell2
            go_wp2
            go_meet
            case rel => exact ⟨by simp [h2], rfl⟩
          · go_wp2
            go_meet
            case rel => exact ⟨by simp [h2], rfl⟩
        case rest =>
          obtain ⟨hs38, rfl⟩ := hcut
          subst hs38
          obtain ⟨bb, hbb⟩ : ∃ bb, bb = (decide (i < n2) && B i) := ⟨_, rfl⟩
          rw [← hbb]
          clear hbb
          go_upto_if 38 with fail
          go_cut [8, 9, 10, 11] from 29 to 91 (fun s8 s9 s10 s11 wx => ∃ (now first : Int) (rd rs : Bool), s8 = .int .i64 now ∧ s9 = .int .i64 first ∧ s10 = .bool rs ∧ s11 = .bool (!rd) ∧ first ≤ now ∧ Clk wx w1.heap.size now first rd rs ∧ Fr (fun k => k = w1.heap.size) w1 wx)
          case first =>
            cases bb
            · go_wp2
              go_meet
              case rel => exact ⟨now, first, rd, rs, rfl, rfl, rfl, rfl, H0, HC.out, HFF.out⟩
            · have ch : ∀ w', Clk w' w1.heap.size 0 0 false true → Calls Try.prog 10 #[.pointer (some ⟨w1.heap.size, 0, none⟩), .int .i64 wi] w' fun e w'' => e = .returned (.int .i64 wi) ∧ ∃ n, w'' = w'.drewN n := by
                intro w' h
                have := held_c h wi (by omega)
                rw [heldV_small (by omega) (by omega) hwi2.1 hwi2.2 (by omega)] at this
                have e : (if (0 : Int) - 0 < wi then 0 - 0 + wi else 0) = wi := by split <;> omega
                rw [e] at this
                exact this
              have CH := Lib.hid ch
              clear ch
              go_wp2_with (first
                | (go_at_call 8; refine (restart_c HC.out).mono ?_; rintro e w2 ⟨rfl, h2, f2⟩)
                | (go_at_call 9; refine (now_c h2).mono ?_; rintro e w' ⟨rfl, rfl⟩)
                | (go_at_call 10; refine (CH.out _ h2).mono ?_; rintro e w' ⟨rfl, n1, rfl⟩))
              go_meet
              case rel => exact ⟨0, 0, false, true, rfl, rfl, rfl, rfl, by omega, h2.drewN _, (HFF.out.trans f2).drewN _⟩
          case rest =>
            clear HC HFF H0
            obtain ⟨now, first, rd, rs, rfl, rfl, rfl, rfl, H0, hC, hF⟩ := hcut
            have HF := Lib.hid hF
            have HC := Lib.hid hC
            have hn0 := hC.now0
            have hnM := hC.nowM
            have hf0 := hC.fst0
            have hfM := hC.fstM
            clear hC hF
            obtain ⟨m, hm⟩ : ∃ m, m = max now z := ⟨_, rfl⟩
            obtain ⟨f, hf⟩ : ∃ f, f = (if rd then first else m) := ⟨_, rfl⟩
            have cr := read_c HC.out z hzw
            rw [← hm, ← hf] at cr
            have CR := Lib.hid cr
            clear cr
            have hm1 : 0 ≤ m ∧ m ≤ 9223372036854775807 := by omega
            have hf1 : 0 ≤ f ∧ f ≤ m := by rw [hf]; split <;> omega
            have hmz : Hid (now < z ∧ m = z ∨ z ≤ now ∧ m = now) := Lib.hid (by omega)
            have hff : Hid (rd = true ∧ f = first ∨ rd = false ∧ f = m) := by
              cases rd
              · exact Lib.hid (Or.inr ⟨rfl, hf⟩)
              · exact Lib.hid (Or.inl ⟨rfl, hf⟩)
            obtain ⟨u, hu⟩ : ∃ u, u = heldV m f wi rs := ⟨_, rfl⟩
            have ch : ∀ w', Clk w' w1.heap.size m f true rs → _ := fun w' h => held_c h wi (by omega)
            rw [← hu] at ch
            have huu : Hid (4611686018427387904 ≤ f ∧ rs = true ∨ 4611686018427387904 ≤ f ∧ rs = false ∨ f < 4611686018427387904 ∧ (rs = false ∧ u = 0 ∨ rs = true ∧ (m - f < wi ∧ u = f - m + wi ∨ wi ≤ m - f ∧ u = 0))) := by
              by_cases g : 4611686018427387904 ≤ f
              · cases rs
                · exact Lib.hid (Or.inr (Or.inl ⟨g, rfl⟩))
                · exact Lib.hid (Or.inl ⟨g, rfl⟩)
              · refine Lib.hid (Or.inr (Or.inr ⟨by omega, ?_⟩))
                cases rs
                · exact Or.inl ⟨rfl, hu⟩
                · rw [heldV_small hf1.1 (by omega) hwi2.1 hwi2.2 hm1.1] at hu
                  by_cases g2 : m - f < wi
                  · rw [if_pos g2] at hu; exact Or.inr ⟨rfl, Or.inl ⟨g2, hu⟩⟩
                  · rw [if_neg g2] at hu; exact Or.inr ⟨rfl, Or.inr ⟨by omega, hu⟩⟩
            have CH := Lib.hid ch
            clear hm hf hu ch
            have hfin : ∀ w', Clk w' w1.heap.size m f true rs → Fr (fun k => k = w1.heap.size) w1 w' → ∃ (i' : Nat) (now first : Int) (rd' rs' : Bool), i' ≤ n ∧ n - (i + 1) = n - i' ∧ Value.int .i64 ((i : Int) + 1) = .int .i64 (i' : Int) ∧ Value.int .i64 m = .int .i64 now ∧ Value.int .i64 f = .int .i64 first ∧ Value.bool rs = .bool rs' ∧ Value.bool false = .bool (!rd') ∧ first ≤ now ∧ Clk w' w1.heap.size now first rd' rs' ∧ Fr (fun k => k = w1.heap.size) w1 w' :=
              fun w' h1 h2 => ⟨i + 1, m, f, true, rs, by omega, by omega, by go_num, rfl, rfl, rfl, rfl, hf1.2, h1, h2⟩
            have HFIN := Lib.hid hfin
            clear hfin
            rcases hmz.out with ⟨g1, rfl⟩ | ⟨g1, rfl⟩ <;> rcases hff.out with ⟨rfl, rfl⟩ | ⟨rfl, rfl⟩ <;> rcases huu.out with ⟨g, rfl⟩ | ⟨g, rfl⟩ | ⟨g, ⟨rfl, rfl⟩ | ⟨rfl, ⟨g2, g3⟩ | ⟨g2, rfl⟩⟩⟩
            all_goals
              clear hmz hff huu
              go_wp2_with (first
                | (go_at_call 11; refine CR.out.mono ?_; rintro e w2 ⟨rfl, h2, f2⟩)
                | (go_at_call 9; refine (now_c h2).mono ?_; rintro e w' ⟨rfl, rfl⟩)
                | (go_at_call 12; refine (over_c h2).mono ?_; rintro e w' ⟨rfl, rfl⟩)
                | (go_at_call 10; refine (CH.out _ h2).mono ?_; rintro e w' ⟨rfl, n1, rfl⟩))
            all_goals
              go_roundg (n - (i + 1))
              case measure => have := HK.out; omega
              case rel => first | exact HFIN.out _ h2 (HF.out.trans f2) | exact HFIN.out _ (h2.drewN _) ((HF.out.trans f2).drewN _)
      · go_wp2
        go_ret
        exact ⟨rfl, B1.out.trans ((HF.out.below (Nat.le_refl _) (fun k hk => by omega)).mono B1.out.size)⟩
end Go.Proofs.Ytofcindehoghjaa
