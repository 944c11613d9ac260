/- What a stream is answered, however it is cut. -/
import Derived.Test.YtaghookljjpllaaCnM
namespace Go.Proofs.Ytaghookljjpllaa
set_option linter.unusedSimpArgs false
set_option linter.unusedVariables false
open Go.ChangeShapes Go.WideShapes Go.ChangeAt Go.RowKit
/-- all that goes out. -/
def fullZ (rules : Int) : List Int → Int → List Int → List Int
  | _, _, [] => []
  | z, e, x :: r => if e ≠ 0 then [] else
      if (parseZ (z ++ [x]) rules).2.2 ≠ 0 then frmZ (errZ (parseZ (z ++ [x]) rules).2.2)
      else if 0 < (parseZ (z ++ [x]) rules).2.1 then hoA (parseZ (z ++ [x]) rules).1 ++ fullZ rules [] 0 r
      else fullZ rules (z ++ [x]) 0 r
theorem full_err {rules : Int} {z : List Int} {e : Int} (he : e ≠ 0) : ∀ l, fullZ rules z e l = []
  | [] => rfl
  | x :: r => by unfold fullZ; rw [if_pos he]
theorem full_step {rules : Int} {size : Nat} {σ : CnS} {x : Int} {r : List Int} (h : StOK rules σ) (hx : 0 ≤ x ∧ x ≤ 255) (hf : fitsH rules size σ x = true) :
    σ.out ++ fullZ rules σ.z σ.err (x :: r) = (comeH rules σ x).1.out ++ fullZ rules (comeH rules σ x).1.z (comeH rules σ x).1.err r := by
  obtain ⟨he, hst, _⟩ := come_cases h hx hf
  have hn : nextZ rules σ.z x = if (parseZ (σ.z ++ [x]) rules).2.2 ≠ 0 ∨ 0 < (parseZ (σ.z ++ [x]) rules).2.1 then [] else σ.z ++ [x] := rfl
  conv => lhs; unfold fullZ
  rw [if_neg (by simp [he])]
  unfold comeH
  by_cases h1 : (parseZ (σ.z ++ [x]) rules).2.2 ≠ 0
  · rw [if_pos h1, if_pos h1]
    show _ = (σ.out ++ frmZ _) ++ fullZ rules _ _ r
    rw [full_err h1, List.append_nil]
  · rw [if_neg h1, if_neg h1]
    by_cases h2 : 0 < (parseZ (σ.z ++ [x]) rules).2.1
    · rw [if_pos h2, if_pos h2, hn, if_pos (Or.inr h2)]
      show _ = (σ.out ++ hoA _) ++ fullZ rules [] 0 r
      rw [List.append_assoc]
    · rw [if_neg h2, if_neg h2, hn, if_neg (fun hh => by rcases hh with hh | hh; exact h1 hh; exact h2 hh)]
theorem full_acc {rules : Int} {size : Nat} : ∀ (zs : List Int) (σ : CnS) (more : List Int), StOK rules σ → byt zs →
    σ.out ++ fullZ rules σ.z σ.err (zs ++ more) = (accH rules size σ zs).2.1.out ++ fullZ rules (accH rules size σ zs).2.1.z (accH rules size σ zs).2.1.err (zs.drop (accH rules size σ zs).1 ++ more)
  | [], σ, more, _, _ => rfl
  | x :: r, σ, more, h, hb => by
    cases hf : fitsH rules size σ x with
    | false => rw [acc_stop hf]; rfl
    | true =>
      have hx := hb x (List.mem_cons_self ..)
      rw [acc_step hf, List.cons_append, full_step h hx hf, List.drop_succ_cons]
      exact full_acc r _ more (come_cases h hx hf).2.1 (fun z hz => hb z (List.mem_cons_of_mem _ hz))
/-- with nothing that waits a byte comes in, or there was a fault. -/
theorem acc_moves {rules : Int} {size : Nat} {σ : CnS} (ho : σ.out = []) (hs : 30 ≤ size) {zs : List Int} (hz : 0 < zs.length) (h0 : (accH rules size σ zs).1 = 0) : σ.err ≠ 0 := by
  intro he
  match zs, hz with
  | x :: r, _ =>
    have hf := fits_room (rules := rules) (size := size) he (by rw [ho]; show 0 + 30 ≤ size; omega) x
    rw [acc_step hf] at h0
    have h0 : (accH rules size (comeH rules σ x).1 r).1 + 1 = 0 := h0
    omega
end Go.Proofs.Ytaghookljjpllaa
