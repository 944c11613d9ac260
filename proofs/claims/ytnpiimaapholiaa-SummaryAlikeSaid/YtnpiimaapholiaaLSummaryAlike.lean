/- For all draws and rows of calls: whenever the condition of the function holds, the function plays no part; a key that is too long, and a weight that is none, neither. -/
import Derived.Test.YtnpiimaapholiaaRows
import Derived.Test.YtnpiimaapholiaaZSmP
import Derived.Test.YtnpiimaapholiaaLift


import Derived.Test.YtnpiimaapholiaaZLiftS








namespace Go.Proofs.Ytnpiimaapholiaa.summaryAlike
open Go.ChangeShapes Go.WideShapes Go.ChangeAt Go.RowKit
set_option linter.unusedVariables false

theorem own : ownKnob Try.prog.godebug = none := by kernel_rfl
theorem law.laidOut : laidOutB Try.prog = true := by kernel_rfl

set_option maxRecDepth 100000 in
theorem lifted (os : Os) (started : os.Started) (H : Type) (enc : TypeId × Value → H) :
    ReturnsInHanded {} Try.checked os 8 .any (Rows.summaryAlikeSpec.pre6 enc Try.prog Try.f8 Rows.summaryAlikeRow.domain false) (Rows.summaryAlikeSpec.post enc Try.prog Try.f8 false true false false) := by
  refine returnsInHanded_of_change (C := Try.checked) own started (by kernel_rfl) Try.func8
    (ChangeSpec.witness6 (enc := enc) (C := Try.checked) false ⟨#[], #[.agg #[.int .u64 0, .int .u64 0, .int .u64 0, .int .u64 0, .int .u64 0, .int .u64 0], .slice none 0 0], []⟩ 8 (by kernel_rfl) (by kernel_rfl) (by kernel_rfl) (by kernel_rfl)) ?_
  intro W base args ds gs before hval0 hW hcnd _
  have hval : ∀ (j : Nat) t v, Try.f8.params[j]? = some t → args[j]? = some v → Value.okWide Try.prog W .any base t v := hval0
  have hW' := hW
  obtain ⟨p, q, hA0, hV, rfl, hfz, hnd⟩ := hW
  have hA : DataW.TrodAll enc Try.prog W 0 (fun _ => true) true Try.f8.params.toList args.toList ds p := hA0
  rw [Try.params8] at hA hval
  obtain ⟨v0, vs0, d0, ds0, p0, q0, hargs, rfl, rfl, h0, r_0⟩ := trodAll_cons hA
  obtain ⟨v1, vs1, d1, ds1, p1, q1, rfl, rfl, rfl, h1, r_1⟩ := trodAll_cons r_0
  obtain ⟨rfl, rfl, rfl⟩ := trodAll_nil r_1
  obtain rfl : args = #[v0, v1] := by cases args; simp_all
  obtain ⟨rfl, rfl⟩ := trodVars_none hV
  have h0k := h0
  have h1k := h1
  obtain ⟨qa0, qb0, qc0, qx0, qy0, qz0, rfl, ⟨wqa0, wqb0, wqc0⟩, ⟨wqx0, wqy0, wqz0⟩⟩ := open_a23 Try.underlying55 Try.underlying23 Try.underlying22 (by kernel_rfl) (by kernel_rfl) (by kernel_rfl) (hval 0 55 v0 rfl rfl) h0
  have fqa0 := bounds_u64 wqa0
  obtain ⟨nqa0, rfl⟩ := Int.eq_ofNat_of_zero_le fqa0.1
  have fqb0 := bounds_u64 wqb0
  obtain ⟨nqb0, rfl⟩ := Int.eq_ofNat_of_zero_le fqb0.1
  have fqc0 := bounds_u64 wqc0
  obtain ⟨nqc0, rfl⟩ := Int.eq_ofNat_of_zero_le fqc0.1
  have fqx0 := bounds_u64 wqx0
  obtain ⟨nqx0, rfl⟩ := Int.eq_ofNat_of_zero_le fqx0.1
  have fqy0 := bounds_u64 wqy0
  obtain ⟨nqy0, rfl⟩ := Int.eq_ofNat_of_zero_le fqy0.1
  have fqz0 := bounds_u64 wqz0
  obtain ⟨nqz0, rfl⟩ := Int.eq_ofNat_of_zero_le fqz0.1
  obtain ⟨A1, n1, c1, L1, rfl, r1, ok1⟩ := open_si Try.underlying24 Try.underlying37 (by kernel_rfl) (by kernel_rfl) (by kernel_rfl) (by kernel_rfl) (hval 1 24 v1 rfl rfl) h1
  clear hA0 hval0
  simp only [List.append_nil] at hW'
  have hlt := hW'.lt
  refine (Ytnpiimaapholiaa.smalike_law W nqa0 nqb0 nqc0 nqx0 nqy0 nqz0 A1 n1 c1 L1 (by omega) (by omega) r1 ok1).mono fun e W' ⟨he, hb⟩ => ?_
  subst he
  exact ⟨_, rfl, post_of_below (pv := []) hW' (fun _ _ _ => (trodAll_cons_mk (shut_bool Try.underlying4 _) trodAll_mk0)) (fun sp hsp => (trodAll_cons_mk (trod_again law.laidOut (by kernel_rfl) (of_decide_eq_true (by kernel_rfl)) h0k hb hlt (fun x hx => by simp [hx]) hsp) (trodAll_cons_mk (trod_again law.laidOut (by kernel_rfl) (of_decide_eq_true (by kernel_rfl)) h1k hb hlt (fun x hx => by simp [hx]) hsp) trodAll_mk0))) (fun _ _ => rfl) (by simp)
    hb (ok_one (by kernel_rfl) rfl (okWide_bool_mk Try.underlying4 _))⟩

theorem over : Rows.summaryAlikeRow.holds Try.pinned (OpenSpec.ofChange Rows.summaryAlikeSpec) :=
  OpenClaim.holds_of_wide 8 Try.f8 rfl rfl rfl rfl rfl rfl rfl ⟨rfl, rfl, rfl, rfl, rfl⟩ rfl rfl rfl rfl rfl (by kernel_rfl) Try.func8 (by kernel_rfl)
    (of_decide_eq_true (by kernel_rfl)) (by unfold Func.isWrapper; first | (rw [if_pos (by decide +kernel)]; kernel_rfl) | (rw [if_neg (by decide +kernel)]; exact ⟨rfl, rfl⟩))
    (fun os started H enc _ => lifted os started H enc)

theorem proved : Rows.SummaryAlikeSaid := over
end Go.Proofs.Ytnpiimaapholiaa.summaryAlike
