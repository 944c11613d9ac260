/- what seeds are drawn plays no part as long as no rule has more keys than cells -/
import Derived.Test.YtambcbbekoehiaaGreatRows
import Derived.Test.YtambcbbekoehiaaGreatTpS
import Derived.Test.YtambcbbekoehiaaGreatLift








import Derived.Test.YtambcbbekoehiaaGreatZLiftS


import Derived.Test.YtambcbbekoehiaaGreatOa2

namespace Go.Proofs.YtambcbbekoehiaaGreat.wholeSeeds
open Go.ChangeShapes Go.WideShapes Go.ChangeAt Go.RowKit
set_option linter.unusedVariables false

theorem own : ownKnob Tryz.prog.godebug = none := by kernel_rfl
theorem law.laidOut : laidOutB Tryz.prog = true := by kernel_rfl

set_option maxRecDepth 100000 in
theorem lifted (os : Os) (started : os.Started) (H : Type) (enc : TypeId × Value → H) :
    ReturnsInHanded {} Tryz.checked os 6 .any (Rows.wholeSeedsSpec.pre6 enc Tryz.prog Tryz.f6 Rows.wholeSeedsRow.domain false) (Rows.wholeSeedsSpec.post enc Tryz.prog Tryz.f6 false true false false) := by
  refine returnsInHanded_of_change (C := Tryz.checked) own started (by kernel_rfl) Tryz.func6
    (ChangeSpec.witness6 (enc := enc) (C := Tryz.checked) false ⟨#[], #[.agg #[.int .i64 0, .int .i64 0, .int .i64 0, .int .i64 0, .int .i64 0, .int .i64 0, .int .i64 0, .int .i64 0, .bool false], .agg #[.slice none 0 0, .slice none 0 0], .slice none 0 0], []⟩ 8 (by kernel_rfl) (by kernel_rfl) (by kernel_rfl) (by kernel_rfl)) ?_
  intro W base args ds gs before hval0 hW hcnd _
  have hval : ∀ (j : Nat) t v, Tryz.f6.params[j]? = some t → args[j]? = some v → Value.okWide Tryz.prog W .any base t v := hval0
  have hW' := hW
  obtain ⟨p, q, hA0, hV, rfl, hfz, hnd⟩ := hW
  have hA : DataW.TrodAll enc Tryz.prog W 0 (fun _ => true) true Tryz.f6.params.toList args.toList ds p := hA0
  rw [Tryz.params6] at hA hval
  obtain ⟨v0, vs0, d0, ds0, p0, q0, hargs, rfl, rfl, h0, r_0⟩ := trodAll_cons hA
  obtain ⟨v1, vs1, d1, ds1, p1, q1, rfl, rfl, rfl, h1, r_1⟩ := trodAll_cons r_0
  obtain ⟨v2, vs2, d2, ds2, p2, q2, rfl, rfl, rfl, h2, r_2⟩ := trodAll_cons r_1
  obtain ⟨rfl, rfl, rfl⟩ := trodAll_nil r_2
  obtain rfl : args = #[v0, v1, v2] := by cases args; simp_all
  obtain ⟨rfl, rfl⟩ := trodVars_none hV
  have h0k := h0
  have h1k := h1
  have h2k := h2
  obtain ⟨L0, W0, B0, Sl0, Ce0, Ro0, Wi0, Tr0, sm0, rfl, fr0⟩ := open_rule Tryz.underlying72 (by kernel_rfl) (by kernel_rfl) (by kernel_rfl) (by kernel_rfl) (by kernel_rfl) (by kernel_rfl) (by kernel_rfl) (by kernel_rfl) (by kernel_rfl) (by kernel_rfl) (by kernel_rfl) (hval 0 72 v0 rfl rfl) h0
  obtain ⟨x1, y1, rfl, ⟨fx1, qx1, hx1⟩, ⟨fy1, qy1, hy1⟩⟩ := open_a2s Tryz.underlying96 (by kernel_rfl) (by kernel_rfl) (hval 1 96 v1 rfl rfl) h1
  obtain ⟨Ax1, nx1, cx1, Lx1, rfl, rx1⟩ := row_rdI Tryz.underlying23 Tryz.underlying118 (by kernel_rfl) ⟨_, _, hx1⟩
  obtain ⟨Ay1, ny1, cy1, Ly1, rfl, ry1⟩ := row_rdI Tryz.underlying23 Tryz.underlying118 (by kernel_rfl) ⟨_, _, hy1⟩
  obtain ⟨A2, n2, c2, L2, rfl, r2⟩ := open_rdDv Tryz.underlying24 (by kernel_rfl) (fun N cs y hq => open_deed (tq := 44) (tb := 56) (eb := 5) Tryz.underlying135 (by kernel_rfl) Tryz.underlying44 (by kernel_rfl) (by kernel_rfl) ⟨⟨rfl, rfl, rfl, rfl, rfl, rfl⟩, (by kernel_rfl), (by kernel_rfl), (by kernel_rfl), (by kernel_rfl), rfl, rfl, (by kernel_rfl)⟩ (by kernel_rfl) (by kernel_rfl) (by kernel_rfl) (by kernel_rfl) (by kernel_rfl) (by kernel_rfl) (by kernel_rfl) (by kernel_rfl) (by kernel_rfl) Tryz.underlying56 Tryz.underlying5 (by kernel_rfl) hq) (hval 2 24 v2 rfl rfl) h2
  clear hA0 hval0
  simp only [List.append_nil] at hW'
  have hlt := hW'.lt
  refine (YtambcbbekoehiaaGreat.wholeseeds_law W L0 W0 B0 Sl0 Ce0 Ro0 Wi0 Tr0 sm0 Ax1 nx1 cx1 Lx1 Ay1 ny1 cy1 Ly1 A2 n2 c2 L2 fr0 rx1 ry1 r2).mono fun e W' ⟨he, hb⟩ => ?_
  subst he
  exact ⟨_, rfl, post_of_below (pv := []) hW' (fun _ _ _ => (trodAll_cons_mk (shut_bool Tryz.underlying4 _) trodAll_mk0)) (fun sp hsp => (trodAll_cons_mk (trod_again law.laidOut (by kernel_rfl) (of_decide_eq_true (by kernel_rfl)) h0k hb hlt (fun x hx => by simp [hx]) hsp) (trodAll_cons_mk (trod_again law.laidOut (by kernel_rfl) (of_decide_eq_true (by kernel_rfl)) h1k hb hlt (fun x hx => by simp [hx]) hsp) (trodAll_cons_mk (trod_again law.laidOut (by kernel_rfl) (of_decide_eq_true (by kernel_rfl)) h2k hb hlt (fun x hx => by simp [hx]) hsp) trodAll_mk0)))) (fun _ _ => rfl) (by simp)
    hb (ok_one (by kernel_rfl) rfl (okWide_bool_mk Tryz.underlying4 _))⟩

set_option maxHeartbeats 4000000 in
theorem closed : joinedFacts Tryz.pinned.checked.prog 6 Tryz.f6 Rows.wholeSeedsSpec Rows.wholeSeedsRow = true := by
  unfold joinedFacts
  simp only [Bool.and_eq_true]
  and_intros
  all_goals (as_aux_lemma => kernel_rfl)

theorem wrap : Tryz.f6.isWrapper Tryz.pinned.checked.prog Rows.wholeSeedsRow.wrapper Rows.wholeSeedsRow.mainSum := by unfold Func.isWrapper; first | (rw [if_pos (by decide +kernel)]; kernel_rfl) | (rw [if_neg (by decide +kernel)]; exact ⟨rfl, rfl⟩)

theorem over : Rows.wholeSeedsRow.holds Tryz.pinned (OpenSpec.ofChange Rows.wholeSeedsSpec) :=
  OpenClaim.holds_of_wide 6 Tryz.f6 rfl rfl rfl rfl rfl rfl rfl ⟨rfl, rfl, rfl, rfl, rfl⟩ rfl rfl rfl rfl rfl (by kernel_rfl) Tryz.func6 closed
    (of_decide_eq_true (by kernel_rfl)) wrap
    (fun os started H enc _ => lifted os started H enc)

theorem proved : Rows.WholeSeedsSaid := over
end Go.Proofs.YtambcbbekoehiaaGreat.wholeSeeds
