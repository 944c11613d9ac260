/- The contracts of layer 8 (summary): Clear. -/
import Derived.Test.YtnpiimaapholiaaSmD
namespace Go.Proofs.Ytnpiimaapholiaa
set_option linter.unusedSimpArgs false
set_option linter.unusedVariables false
open Go.ChangeShapes Go.WideShapes Go.ChangeAt Go.RowKit
section
variable {w W : World} {Q : SmN} {L M : List Ent} {tot : Int} {σ : KSt}
theorem smclear_nil (w : World) : Calls Try.prog 22 #[.pointer none] w fun e w' => e = .returned (.tuple #[]) ∧ w = w' := by
  go_enter Try.func22, Try.ntmps22
  go_wp2
  refine bodyPost_ret (results_none rfl _ _ _) rfl ?_
  exact ⟨rfl, rfl⟩
theorem smclear_any (w : World) (h : SmAt w Q L tot σ) : Calls Try.prog 22 #[.pointer (some ⟨Q.s, 0, none⟩)] w fun e w' => e = .returned (.tuple #[]) ∧ (∃ σ', SmAt w' Q [] 0 σ') ∧ Fr Q.F w w' := by
  have H0 := Lib.hid h
  clear h
  go_enter Try.func22, Try.ntmps22
  go_upto_region 1 with (fail)
  go_loopg [] L.length (fun kk wr => ∃ (M : List Ent) (ρ : KSt), Hid (kk = M.length) ∧ Hid (SmAt wr Q M tot ρ) ∧ Hid (Fr Q.F w wr))
  case atStart => exact ⟨L, σ, Lib.hid rfl, H0, Lib.hid (Fr.refl _ _)⟩
  case round =>
    obtain ⟨M, ρ, HK, HM, HF⟩ := hrel
    have k := HM.out.hs.rd
    rcases List.eq_nil_or_concat M with e | ⟨N, x, e⟩
    · rw [e] at k HM
      have kw := HM.out.hs.wr
      obtain ⟨w4, e4, r4, f4, s4⟩ := G.box_set HM.out.hs 3 (.int .i64 0) (smC Q 0 0) rfl
      have R4 := Lib.hid r4
      have F4 := Lib.hid f4
      clear r4 f4 s4
      go_wp2
      go_end0
      have hh := HM.out
      obtain ⟨R, hg, hl⟩ := hh.hg
      refine ⟨rfl, ⟨ρ, R4.out, ⟨R, hg.fr F4.out (fun e => hh.ne.1 e.symm), hl⟩, hh.ix.fr F4.out (fun k hk e => (hh.ne.2 k hk).2 e), hh.n1, hh.ne, ⟨(fun x hx => by cases hx), hh.ok.has, List.nodup_nil, hh.ok.cnt, (fun x hx => by cases hx), by omega⟩⟩, HF.out.trans (F4.out.mono (fun k hk => Or.inr (Or.inl hk)))⟩
    · rw [List.concat_eq_append] at e
      have hlen : M.length = N.length + 1 := by rw [e]; simp
      rw [hlen] at k
      rw [e] at HM
      have HLEN := Lib.hid hlen
      have CD := Lib.hid (smdrop_any x wr HM.out)
      have t1 : (0 : Int) < ((N.length + 1 : Nat) : Int) := by omega
      clear e hlen
      go_wp2_with (go_at_call 33; ((with_reducible refine CD.out.mono ?_); rintro e w3 ⟨rfl, h3, f3⟩; have H3 := Lib.hid h3; have F3 := Lib.hid (HF.out.trans f3); clear h3 f3))
      go_roundg N.length
      case measure => have := HK.out; have := HLEN.out; omega
      case rel => exact ⟨N, _, Lib.hid rfl, H3, F3⟩
end
end Go.Proofs.Ytnpiimaapholiaa
