/- The contracts of layer 13 (frame): Parse. -/
import Derived.Test.YtaghookljjpllaaFrG
import Derived.Test.YtaghookljjpllaaFrP
namespace Go.Proofs.Ytaghookljjpllaa
set_option linter.unusedSimpArgs false
set_option linter.unusedVariables false
open Go.ChangeShapes Go.WideShapes Go.ChangeAt Go.RowKit
theorem results_cell2 {P : Program} {fn : Func} {p u1 u2 : Tmp} {ty : TypeId} (h : fn.results = #[.cell p ty, .tmp u1, .tmp u2]) (tmps : Array Value) (w : World) (g : Nat) (t : TypeId) (cs : Array Value) (fr : Nat × Nat) (d : TypeDesc)
    (hp : tmps.getD p undef = .pointer (some ⟨g, 0, none⟩)) (hg : w.heap[g]? = some (.cells cs t fr))
    (hu : P.underlying ty = some d) (hd : (match d with | .struct _ | .array _ _ => true | _ => false) = true) (hi : (P.info? ty).map (·.size) = some cs.size) :
    (results fn tmps).run P w = .ok (.tuple #[.agg cs, tmps.getD u1 undef, tmps.getD u2 undef]) w := by
  have hp' : tmps[p]?.getD undef = .pointer (some ⟨g, 0, none⟩) := by simpa using hp
  simp [results, h, hp', asAddr, run_loadVar_row w g t ty cs fr d hg hu hd hi]
theorem clean_step {z : List Int} {rules : Int} {i : Nat} (h : cleanZ z rules i) (hf : fltZ z rules i = 0) (hw : ¬ wholeAt z i) : cleanZ z rules (i + 1) := fun t ht => by
  rcases Nat.lt_succ_iff_lt_or_eq.1 ht with g | rfl
  · exact h t g
  · exact ⟨hf, hw⟩
def parsedV (r : Req × Int × Int) : Value := .tuple #[reqOf r.1, .int .i64 r.2.1, .int .i64 r.2.2]
theorem parsed_mk {q : Req} {m e : Int} {r : Req × Int × Int} (h : r = (q, m, e)) : parsedV r = .tuple #[reqOf q, .int .i64 m, .int .i64 e] := by rw [h]; rfl
set_option maxHeartbeats 4000000 in
theorem parse_any (A : Option Addr) (n c : Nat) (z : List Int) (rules : Int) (w : World) (hr : RdI w .u8 A n c z) :
    Calls Try.prog 37 #[.slice A n c, .int .i64 rules] w fun e w' => e = .returned (parsedV (parseZ z rules)) ∧ Below w.heap.size w w' := by
  have hcp := hr.cap
  have hmx := hr.max
  have HL := Lib.hid hr.len
  unfold maxLen at hmx
  have HR := Lib.hid hr
  clear hr
  go_enter Try.func37, Try.ntmps37
  go_upto_region 1 with (fail)
  obtain ⟨w1, hw1, hbk, hbl, hsz1⟩ := box_new w (reqC 0 0 0 ⟨#[]⟩ 0) 41
  change Code.wp _ _ _ _ (w.alloc (.cells (reqC 0 0 0 ⟨#[]⟩ 0) 41))
  rw [hw1]
  obtain ⟨b0, hb0⟩ : ∃ b0, b0 = w.heap.size := ⟨_, rfl⟩
  rw [← hb0] at hbk ⊢
  have HB0 := Lib.hid hb0
  have BK := Lib.hid hbk
  have BL := Lib.hid hbl
  clear hbk hbl hsz1 hw1 hb0
  go_wp2
  go_loopg [11] n (fun k s11 wr => ∃ i : Nat, i ≤ n ∧ k = n - i ∧ s11 = .int .i64 (i : Int) ∧ cleanZ z rules i ∧ wr = w1)
  case atStart => exact ⟨0, by omega, by omega, rfl, fun i hi => absurd hi (by omega), rfl⟩
  case round =>
    obtain ⟨i, hi, hkk, rfl, hcl, rfl⟩ := hrel
    have HK := Lib.hid hkk
    have HCL := Lib.hid hcl
    have k0 := BK.out.wr
    have k1 := BK.out.rd
    clear hkk hcl
    by_cases hin : i < n
    · have RZ := HR.out.below BL.out
      obtain ⟨d, off, rfl, _, hc⟩ := RZ.at_ (by omega)
      obtain ⟨f, hf⟩ : ∃ f, f = fltZ z rules i := ⟨_, rfl⟩
      have CF := Lib.hid (fault_any _ n c z rules i hin wr RZ)
      rw [← hf] at CF
      have HF := Lib.hid hf
      have HC := Lib.hid hc
      have RZ1 := Lib.hid RZ
      have g1 : (i : Int) + 1 ≤ (c : Int) := by omega
      have g2 : (i : Int) < (n : Int) := by omega
      clear hf hc RZ
      by_cases hf0 : f = 0
      · have t0 : (f != 0) = false := by simpa using hf0
        by_cases hi3 : 3 ≤ i
        · have c3 := HC.out 3 (by omega)
          obtain ⟨y, hy⟩ : ∃ y, y = z.getD 3 0 := ⟨_, rfl⟩
          have b3 : 0 ≤ y ∧ y ≤ 255 := by rw [hy]; exact wf_u8 (HR.out.wf_at (by omega))
          rw [← hy] at c3
          have HY := Lib.hid hy
          have t1 : decide ((3 : Int) ≤ (i : Int)) = true := by simp; omega
          have t2 : decide (3 ≤ i) = true := by simpa using hi3
          have g3 : (3 : Int) ≤ (i : Int) := by omega
          have g4 : (3 : Int) < (n : Int) := by omega
          have HF0 := Lib.hid hf0
          clear hy hf0
          by_cases hw : (i : Int) + 1 = 4 + y
          · have t3 : ((i : Int) + 1 == 4 + y) = true := by simpa using hw
            have HW := Lib.hid (show wholeAt z i from ⟨hi3, by rw [← HY.out]; exact hw⟩)
            have hww := whole_ways (show i < z.length by rw [HL.out]; exact hin) HCL.out (by rw [← HF.out]; exact HF0.out) HW.out
            rw [HL.out] at hww
            have CR := Lib.hid (request_any _ n c z wr RZ1.out hww.1 hww.2)
            obtain ⟨rq, hrq⟩ : ∃ rq, rq = reqZ z := ⟨_, rfl⟩
            rw [← hrq] at CR
            have HRQ := Lib.hid hrq
            have ew : IntKind.i64.wrap ((i : Int) + 1) = (i : Int) + 1 := by rw [IntKind.wrap_i64]; omega
            unfold reqOf at CR
            clear hw hww hrq
            go_wp2_with (first
              | (go_at_call 39; ((with_reducible refine CF.out.mono ?_); rintro e w2 ⟨rfl, rfl⟩))
              | (go_at_call 40; ((with_reducible refine CR.out.mono ?_); rintro e w3 ⟨rfl, b3⟩; have BK3 := Lib.hid (BK.out.keep b3); have B3 := Lib.hid (BL.out.trans (b3.mono BL.out.size)); have k3 := BK3.out.wr; have k4 := BK3.out.rd; clear b3)))
            rw [five_set BK3.out]
            refine bodyPost_ret (results_cell2 rfl _ _ b0 _ _ (0, 0) _ rfl (setObj_at (lt_of_block BK3.out) _) Try.underlying41 rfl (by kernel_rfl)) rfl ⟨?_, ?_⟩
            · rw [parse_whole i (by rw [HL.out]; exact hin) HCL.out (by rw [← HF.out]; exact HF0.out) HW.out, ← HRQ.out]; rfl
            · exact B3.out.trans ((Fr.setObj (F := fun k => k = b0) (Fr.refl _ _) rfl _).below B3.out.size (fun k hk => by have := HB0.out; omega))
          · have t3 : ((i : Int) + 1 == 4 + y) = false := by simpa using hw
            have HW := Lib.hid (show ¬ wholeAt z i from fun h => hw (by rw [HY.out]; exact h.2))
            clear hw
            go_wp2_with (go_at_call 39; ((with_reducible refine CF.out.mono ?_); rintro e w2 ⟨rfl, rfl⟩))
            go_roundg (n - (i + 1))
            case measure => have := HK.out; omega
            case rel => exact ⟨i + 1, by omega, by omega, by go_num, clean_step HCL.out (by rw [← HF.out]; exact HF0.out) HW.out, rfl⟩
        · have t1 : decide ((3 : Int) ≤ (i : Int)) = false := by simp; omega
          have t2 : decide (3 ≤ i) = false := by simpa using hi3
          have HF0 := Lib.hid hf0
          clear hf0
          go_wp2_with (go_at_call 39; ((with_reducible refine CF.out.mono ?_); rintro e w2 ⟨rfl, rfl⟩))
          go_roundg (n - (i + 1))
          case measure => have := HK.out; omega
          case rel => exact ⟨i + 1, by omega, by omega, by go_num, clean_step HCL.out (by rw [← HF.out]; exact HF0.out) (fun h => hi3 h.1), rfl⟩
      · have t0 : (f != 0) = true := by simpa using hf0
        have HF0 := Lib.hid hf0
        clear hf0
        go_wp2_with (go_at_call 39; ((with_reducible refine CF.out.mono ?_); rintro e w2 ⟨rfl, rfl⟩))
        rw [five_set BK.out]
        refine bodyPost_ret (results_cell2 rfl _ _ b0 _ _ (0, 0) _ rfl (setObj_at (lt_of_block BK.out) _) Try.underlying41 rfl (by kernel_rfl)) rfl ⟨?_, ?_⟩
        · rw [parse_fault i (by rw [HL.out]; exact hin) HCL.out (by rw [← HF.out]; exact HF0.out), ← HF.out]; rfl
        · exact BL.out.trans ((Fr.setObj (F := fun k => k = b0) (Fr.refl _ _) rfl _).below BL.out.size (fun k hk => by have := HB0.out; omega))
    · have hie : i = n := by omega
      subst hie
      go_wp2
      rw [five_set BK.out]
      refine bodyPost_ret (results_cell2 rfl _ _ b0 _ _ (0, 0) _ rfl (setObj_at (lt_of_block BK.out) _) Try.underlying41 rfl (by kernel_rfl)) rfl ⟨?_, ?_⟩
      · rw [parse_all (by rw [HL.out]; exact HCL.out)]; rfl
      · exact BL.out.trans ((Fr.setObj (F := fun k => k = b0) (Fr.refl _ _) rfl _).below BL.out.size (fun k hk => by have := HB0.out; omega))
end Go.Proofs.Ytaghookljjpllaa
