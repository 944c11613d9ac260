/- The contracts of layer 13 (frame): Read. -/
import Derived.Test.YtghhoofdbmgacaaDoorFaT
import Derived.Test.YtghhoofdbmgacaaDoorFaU
import Derived.BigQuiet
namespace Go.Proofs.YtghhoofdbmgacaaDoor
set_option linter.unusedSimpArgs false
set_option linter.unusedVariables false
open Go.ChangeShapes Go.WideShapes Go.ChangeAt Go.RowKit Go.Deep
theorem rdI_hd {w : World} {A : Option Addr} {n c : Nat} {q : List Int} (h : RdI w .u8 A n c q) : byt q := fun x hx => wf_u8 (h.wf x hx)
set_option maxHeartbeats 4000000 in
theorem csaid_short (A : Option Addr) (n c : Nat) (q : List Int) (w : World) (hr : RdI w .u8 A n c q) (h : n < 2 ∨ q.getD 0 0 < 128) :
    Calls Tryd.prog 19 #[.slice A n c] w fun e w' => ∃ sv, e = .returned (.tuple #[sv, .bool false]) ∧ isSd sv ∧ Below w.heap.size w w' := by
  have hcp := hr.cap
  have hmx := hr.max
  unfold maxLen at hmx
  have HR := Lib.hid hr
  have hb := byt_getD (rdI_hd hr) 0
  clear hr
  by_cases h2 : n < 2
  · have t1 : (n : Int) < 2 := by omega
    clear h
    go_enter Tryd.func19, Tryd.ntmps19
    go_upto_region 1 with (fail)
    obtain ⟨w1, hw1, hbk, hbl, hsz1⟩ := box_new w (sdC 0 0 0 0 0 0 0 0 0 0 nilV 0) 36
    change Code.wp _ _ _ _ (w.alloc (.cells (sdC 0 0 0 0 0 0 0 0 0 0 nilV 0) 36))
    rw [hw1]
    obtain ⟨b0, hb0⟩ : ∃ b0, b0 = w.heap.size := ⟨_, rfl⟩
    rw [← hb0] at hbk ⊢
    have HB0 := Lib.hid hb0
    have BK := Lib.hid hbk
    have BL := Lib.hid hbl
    have kw := hbk.wr
    have kr := hbk.rd
    clear hbk hbl hsz1 hw1 hb0
    go_wp2
    rw [twelve_set BK.out]
    refine bodyPost_ret (results_cellt rfl _ _ b0 _ _ (0, 0) _ rfl (setObj_at (lt_of_block BK.out) _) Tryd.underlying36 rfl (by kernel_rfl)) rfl ?_
    first | exact ⟨_, rfl, isSd_mk _ _ _ _ _ _ _ _ _ _ _ _ _ _, BL.out.trans ((Fr.setObj (F := fun k => k = b0) (Fr.refl _ _) rfl _).below BL.out.size (fun k hk => by have := HB0.out; omega))⟩ | exact ⟨isSd_mk _ _ _ _ _ _ _ _ _ _ _ _ _ _, BL.out.trans ((Fr.setObj (F := fun k => k = b0) (Fr.refl _ _) rfl _).below BL.out.size (fun k hk => by have := HB0.out; omega))⟩
  · have h128 : q.getD 0 0 < 128 := by omega
    have t1 : ¬ (n : Int) < 2 := by omega
    obtain ⟨d, off, rfl, hlt, hc⟩ := HR.out.at_ (by omega)
    have c00 := hc 0 (by omega)
    rw [Nat.add_zero] at c00
    obtain ⟨y, hy⟩ : ∃ y, y = q.getD 0 0 := ⟨_, rfl⟩
    rw [← hy] at c00 h128
    have g0 : (0 : Int) < (n : Int) := by omega
    have HDL := Lib.hid hlt
    clear h hc hy hb hlt
    go_enter Tryd.func19, Tryd.ntmps19
    go_upto_region 1 with (fail)
    obtain ⟨w1, hw1, hbk, hbl, hsz1⟩ := box_new w (sdC 0 0 0 0 0 0 0 0 0 0 nilV 0) 36
    change Code.wp _ _ _ _ (w.alloc (.cells (sdC 0 0 0 0 0 0 0 0 0 0 nilV 0) 36))
    rw [hw1]
    obtain ⟨b0, hb0⟩ : ∃ b0, b0 = w.heap.size := ⟨_, rfl⟩
    rw [← hb0] at hbk ⊢
    have HB0 := Lib.hid hb0
    have BK := Lib.hid hbk
    have BL := Lib.hid hbl
    have kw := hbk.wr
    have kr := hbk.rd
    have c01 : w1.cell? ⟨d, off, none⟩ = some (.int .u8 y) := by rw [← c00]; exact hbl.cell (p := ⟨d, off, none⟩) HDL.out
    clear hbk hbl hsz1 hw1 hb0 c00
    go_wp2
    rw [twelve_set BK.out]
    refine bodyPost_ret (results_cellt rfl _ _ b0 _ _ (0, 0) _ rfl (setObj_at (lt_of_block BK.out) _) Tryd.underlying36 rfl (by kernel_rfl)) rfl ?_
    first | exact ⟨_, rfl, isSd_mk _ _ _ _ _ _ _ _ _ _ _ _ _ _, BL.out.trans ((Fr.setObj (F := fun k => k = b0) (Fr.refl _ _) rfl _).below BL.out.size (fun k hk => by have := HB0.out; omega))⟩ | exact ⟨isSd_mk _ _ _ _ _ _ _ _ _ _ _ _ _ _, BL.out.trans ((Fr.setObj (F := fun k => k = b0) (Fr.refl _ _) rfl _).below BL.out.size (fun k hk => by have := HB0.out; omega))⟩
/-- what said tells of bytes that say an answer. -/
def YesP (w : World) (s : Sd) (e : Ending) (w' : World) : Prop := ∃ LA LN LC, e = .returned (.tuple #[.agg (sdV s (.slice LA LN LC)), .bool true]) ∧ (∃ ls : List CV, zs ls = s.list ∧ w'.ownsRow w.heap.size 29 3 (.slice LA LN LC) ls.length (cells3 ls)) ∧ Below w.heap.size w w'
theorem yes_nil {w w' : World} {s : Sd} {e : Ending} (hs : s.list = []) (h : e = .returned (.tuple #[.agg (sdV s nilV), .bool true]) ∧ Below w.heap.size w w') : YesP w s e w' :=
  ⟨none, 0, 0, h.1, ⟨[], by rw [hs]; rfl, World.ownsRow_nil _ _ _ _⟩, h.2⟩
theorem said_any (A : Option Addr) (n c : Nat) (q : List Int) (w : World) (hr : RdI w .u8 A n c q) (hn : n ≤ 100000) :
    (∀ s, saidZ q = some s → Calls Tryd.prog 19 #[.slice A n c] w (YesP w s)) ∧
    (saidZ q = none → Calls Tryd.prog 19 #[.slice A n c] w fun e w' => ∃ sv, e = .returned (.tuple #[sv, .bool false]) ∧ isSd sv ∧ Below w.heap.size w w') := by
  have hl := hr.len
  have hby := rdI_hd hr
  have g0 := byt_getD hby 0
  have g1 := byt_getD hby 1
  unfold saidZ
  rw [hl]
  by_cases c1 : n < 2 ∨ q.getD 0 0 < 128
  · rw [if_pos c1]
    exact ⟨(fun s h => by cases h), fun _ => csaid_short A n c q w hr c1⟩
  rw [if_neg c1]
  obtain ⟨op, hop⟩ : ∃ op, op = q.getD 0 0 - 128 := ⟨_, rfl⟩
  have h0 : q.getD 0 0 = 128 + op := by omega
  by_cases c2 : (q.getD 0 0 = 129 ∨ q.getD 0 0 = 130) ∧ n = 18
  · rw [if_pos c2]
    by_cases c3 : 1 ≤ q.getD 1 0 ∧ q.getD 1 0 ≤ 3
    · rw [if_pos c3]
      refine ⟨fun s h => ?_, fun h => by cases h⟩
      injection h with h
      subst h
      rw [← hop]
      exact (csaid_ans_ok A n c q op w hr h0 (by omega) (by omega) (by omega) c2.2 c3).mono (fun e w' h => yes_nil rfl h)
    · rw [if_neg c3]
      exact ⟨(fun s h => by cases h), fun _ => csaid_ans_no A n c q op w hr h0 (by omega) (by omega) (by omega) c2.2 c3⟩
  rw [if_neg c2]
  by_cases c3 : q.getD 0 0 = 131 ∧ n = 42
  · rw [if_pos c3]
    refine ⟨fun s h => ?_, fun h => by cases h⟩
    injection h with h
    subst h
    have := csaid_tot A n c q op w hr h0 (by omega) (by omega) (by omega) c3.2
    rw [show op = 3 by omega] at this
    exact this.mono (fun e w' h => yes_nil rfl h)
  rw [if_neg c3]
  by_cases c4 : q.getD 0 0 = 132 ∧ 3 ≤ n
  · rw [if_pos c4]
    have := csaid_top A n c q op w hr h0 (by omega) (by omega) (by omega) c4.2 hn _ _ rfl rfl
    rw [show op = 4 by omega] at this
    cases hz : lstZ (q.getD 2 0).toNat (q.drop 3) with
    | none =>
      rw [hz] at this
      refine ⟨(fun s h => by cases h), fun _ => this.mono ?_⟩
      rintro e w' ⟨LA, LN, LC, rfl, _, hb⟩
      exact ⟨_, rfl, isSd_mk _ _ _ _ _ _ _ _ _ _ _ _ _ _, hb⟩
    | some l =>
      rw [hz] at this
      refine ⟨fun s h => ?_, fun h => by cases h⟩
      simp only [Option.map_some, Option.some.injEq] at h
      subst h
      refine this.mono ?_
      rintro e w' ⟨LA, LN, LC, rfl, hls, hb⟩
      obtain ⟨ls, h1, h2⟩ := hls l rfl
      exact ⟨LA, LN, LC, rfl, ⟨ls, h1, h2⟩, hb⟩
  rw [if_neg c4]
  by_cases c5 : q.getD 0 0 = 255 ∧ n = 2
  · rw [if_pos c5]
    by_cases c6 : q.getD 1 0 = 0
    · rw [if_pos c6]
      exact ⟨(fun s h => by cases h), fun _ => csaid_err_no A n c q op w hr h0 (by omega) (by omega) (by omega) c5.2 c6⟩
    · rw [if_neg c6]
      refine ⟨fun s h => ?_, fun h => by cases h⟩
      injection h with h
      subst h
      have := csaid_err_ok A n c q op w hr h0 (by omega) (by omega) (by omega) c5.2 c6
      rw [show op = 127 by omega] at this
      exact this.mono (fun e w' h => yes_nil rfl h)
  rw [if_neg c5]
  exact ⟨(fun s h => by cases h), fun _ => csaid_no A n c q op w hr h0 (by omega) (by omega) (fun h => c2 ⟨by omega, h.2⟩) (fun h => c3 ⟨by omega, h.2⟩) (fun h => c4 ⟨by omega, h.2⟩) (fun h => c5 ⟨by omega, h.2⟩)⟩
end Go.Proofs.YtghhoofdbmgacaaDoor
