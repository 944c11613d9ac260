/- Plain mathematics of layer 16's laws. -/
import Derived.Test.YtaghookljjpllaaCnL
namespace Go.Proofs.Ytaghookljjpllaa
set_option linter.unusedSimpArgs false
set_option linter.unusedVariables false
open Go.ChangeShapes Go.WideShapes Go.ChangeAt Go.RowKit
/-- what is known of a connection's bytes. -/
def StOK (rules : Int) (σ : CnS) : Prop := cleanZ σ.z rules σ.z.length ∧ byt σ.z
theorem st_new (rules : Int) (o : List Int) (p : Bool) : StOK rules ⟨[], 0, o, p⟩ := ⟨clean_nil rules, fun _ h => by cases h⟩
theorem hoA_len (q : Req) : (hoA q).length = (q.cost % 30).toNat := by unfold hoA; rw [List.length_replicate]
theorem come_cases {rules : Int} {size : Nat} {σ : CnS} {x : Int} (h : StOK rules σ) (hx : 0 ≤ x ∧ x ≤ 255) (hf : fitsH rules size σ x = true) :
    σ.err = 0 ∧ StOK rules (comeH rules σ x).1 ∧
    ((∃ e, 1 ≤ e ∧ e ≤ 10 ∧ comeH rules σ x = (⟨[], e, σ.out ++ frmZ (errZ e), σ.op⟩, []) ∧ (6 : Int) ≤ ((size - σ.out.length : Nat) : Int)) ∨
     (∃ q, okQ rules q ∧ 6 ≤ σ.z.length + 1 ∧ comeH rules σ x = (⟨[], 0, σ.out ++ hoA q, σ.op⟩, [q]) ∧ q.cost % 30 + 1 ≤ ((size - σ.out.length : Nat) : Int)) ∨
     comeH rules σ x = (⟨σ.z ++ [x], 0, σ.out, σ.op⟩, [])) := by
  have he0 : σ.err = 0 := by
    by_cases h0 : σ.err ≠ 0
    · unfold fitsH at hf; rw [if_pos h0] at hf; cases hf
    · simpa using h0
  obtain ⟨q, m, e, hp⟩ : ∃ q m e, parseZ (σ.z ++ [x]) rules = (q, m, e) := ⟨_, _, _, rfl⟩
  have hb : byt (σ.z ++ [x]) := byt_app h.2 (fun z hz => by rw [List.mem_singleton.1 hz]; exact hx)
  have hpe := parse_err h.1 hp
  have hnx : nextZ rules σ.z x = if e ≠ 0 ∨ 0 < m then [] else σ.z ++ [x] := by unfold nextZ; rw [hp]
  have hst : StOK rules (comeH rules σ x).1 := by
    have h1 : cleanZ (nextZ rules σ.z x) rules (nextZ rules σ.z x).length := next_clean h.1 x
    have h2 : byt (nextZ rules σ.z x) := by rw [hnx]; split; exact (fun _ h => by cases h); exact hb
    unfold comeH
    split
    · exact ⟨h1, h2⟩
    · split
      · exact ⟨h1, h2⟩
      · exact ⟨h1, h2⟩
  refine ⟨he0, hst, ?_⟩
  unfold fitsH at hf
  rw [if_neg (by simp [he0]), hp] at hf
  unfold comeH
  rw [hp]
  simp only at hf ⊢
  by_cases h1 : e ≠ 0
  · rw [if_pos h1] at hf ⊢
    left
    refine ⟨e, by omega, hpe.2.1, ?_, of_decide_eq_true hf⟩
    rw [hnx, if_pos (Or.inl h1)]
  · rw [if_neg h1] at hf ⊢
    by_cases h2 : 0 < m
    · rw [if_pos h2] at hf ⊢
      obtain ⟨_, _, hq⟩ := parse_okQ hb hp (by omega)
      have hlen := enc_parse hb hp (by omega)
      right; left
      refine ⟨q, hq, ?_, ?_, of_decide_eq_true hf⟩
      · have := hlen.2.1
        have := hlen.2.2.1
        rw [List.length_append, List.length_singleton] at this
        omega
      · rw [hnx, if_pos (Or.inr h2)]
    · rw [if_neg h2] at hf ⊢
      right; right
      rw [hnx, if_neg (fun hh => by rcases hh with hh | hh; exact h1 hh; exact h2 hh)]
theorem fits_room {rules : Int} {size : Nat} {σ : CnS} (he : σ.err = 0) (hr : σ.out.length + 30 ≤ size) (x : Int) : fitsH rules size σ x = true := by
  unfold fitsH
  rw [if_neg (by simp [he])]
  split
  · rw [decide_eq_true_iff]; omega
  · split
    · rw [decide_eq_true_iff]
      have := Int.emod_lt_of_pos (parseZ (σ.z ++ [x]) rules).1.cost (show (0 : Int) < 30 by omega)
      omega
    · rfl
theorem acc_err {rules : Int} {size : Nat} {σ : CnS} (h : σ.err ≠ 0) : ∀ zs, accH rules size σ zs = (0, σ, [])
  | [] => rfl
  | x :: r => acc_stop (by unfold fitsH; rw [if_pos h])
/-- bytes that have room for all that may come of them. -/
theorem acc_far {rules : Int} {size : Nat} : ∀ (zs : List Int) (σ : CnS), StOK rules σ → byt zs → σ.err = 0 → σ.out.length + 5 * σ.z.length + 5 * zs.length + 30 ≤ size →
    (accH rules size σ zs).2.1.op = σ.op ∧ (((accH rules size σ zs).2.1.err = 0 ∧ (accH rules size σ zs).1 = zs.length ∧ (accH rules size σ zs).2.1.out.length ≤ σ.out.length + 5 * σ.z.length + 5 * zs.length) ∨
    (∃ e p, 1 ≤ e ∧ e ≤ 10 ∧ (accH rules size σ zs).2.1.err = e ∧ (accH rules size σ zs).2.1.out = p ++ frmZ (errZ e) ∧ p.length ≤ σ.out.length + 5 * σ.z.length + 5 * zs.length ∧ 1 ≤ (accH rules size σ zs).1))
  | [], σ, _, _, he, _ => ⟨rfl, Or.inl ⟨he, rfl, by show σ.out.length ≤ _; omega⟩⟩
  | x :: r, σ, h, hb, he, hl => by
    rw [List.length_cons] at hl ⊢
    have hf := fits_room (rules := rules) he (show σ.out.length + 30 ≤ size by omega) x
    obtain ⟨_, hst, hc⟩ := come_cases h (hb x (List.mem_cons_self ..)) hf
    have hbr : byt r := fun z hz => hb z (List.mem_cons_of_mem _ hz)
    rw [acc_step hf]
    rcases hc with ⟨e, h1, h2, hce, h3⟩ | ⟨q, hq, h6, hce, h3⟩ | hce
    · rw [hce] at hst ⊢
      simp only
      rw [acc_err (σ := ⟨[], e, σ.out ++ frmZ (errZ e), σ.op⟩) (by show e ≠ 0; omega)]
      exact ⟨rfl, Or.inr ⟨e, σ.out, h1, h2, rfl, rfl, by omega, by show 1 ≤ 0 + 1; omega⟩⟩
    · rw [hce] at hst ⊢
      simp only
      have hm := Int.emod_nonneg q.cost (show (30 : Int) ≠ 0 by omega)
      have hm2 := Int.emod_lt_of_pos q.cost (show (0 : Int) < 30 by omega)
      have hla : (σ.out ++ hoA q).length ≤ σ.out.length + 29 := by rw [List.length_append, hoA_len]; omega
      have ih := acc_far r ⟨[], 0, σ.out ++ hoA q, σ.op⟩ hst hbr rfl (by show (σ.out ++ hoA q).length + 5 * 0 + _ + 30 ≤ size; omega)
      obtain ⟨i0, ih⟩ := ih
      refine ⟨i0, ?_⟩
      rcases ih with ⟨i1, i2, i3⟩ | ⟨e, p, j1, j2, j3, j4, j5, j6⟩
      · refine Or.inl ⟨i1, by omega, ?_⟩
        have i3 : _ ≤ (σ.out ++ hoA q).length + 5 * 0 + 5 * r.length := i3
        omega
      · refine Or.inr ⟨e, p, j1, j2, j3, j4, ?_, by omega⟩
        have j5 : _ ≤ (σ.out ++ hoA q).length + 5 * 0 + 5 * r.length := j5
        omega
    · rw [hce] at hst ⊢
      simp only
      have hlz : (σ.z ++ [x]).length = σ.z.length + 1 := by simp
      have ih := acc_far r ⟨σ.z ++ [x], 0, σ.out, σ.op⟩ hst hbr rfl (by show σ.out.length + 5 * (σ.z ++ [x]).length + _ + 30 ≤ size; omega)
      obtain ⟨i0, ih⟩ := ih
      refine ⟨i0, ?_⟩
      rcases ih with ⟨i1, i2, i3⟩ | ⟨e, p, j1, j2, j3, j4, j5, j6⟩
      · refine Or.inl ⟨i1, by omega, ?_⟩
        have i3 : _ ≤ σ.out.length + 5 * (σ.z ++ [x]).length + 5 * r.length := i3
        omega
      · refine Or.inr ⟨e, p, j1, j2, j3, j4, ?_, by omega⟩
        have j5 : _ ≤ σ.out.length + 5 * (σ.z ++ [x]).length + 5 * r.length := j5
        omega
/-- how much the answers are. -/
def sumC : List Req → Int
  | [] => 0
  | q :: l => sumC l + q.cost % 30
theorem sumC_app (l m : List Req) : sumC (l ++ m) = sumC l + sumC m := by
  induction l with
  | nil => show sumC m = 0 + sumC m; omega
  | cons q l ih => show sumC (l ++ m) + _ = sumC l + _ + sumC m; rw [ih]; omega
def six (e : Int) : Int := if e ≠ 0 then 6 else 0
/-- what waits, as the requests have it. -/
theorem acc_sum {rules : Int} {size : Nat} : ∀ (zs : List Int) (σ : CnS), StOK rules σ → byt zs → σ.out.length ≤ size →
    StOK rules (accH rules size σ zs).2.1 ∧ (accH rules size σ zs).2.1.op = σ.op ∧ (accH rules size σ zs).1 ≤ zs.length ∧ (accH rules size σ zs).2.1.out.length ≤ size ∧ (accH rules size σ zs).2.2.length ≤ (accH rules size σ zs).1 ∧
    ((accH rules size σ zs).2.1.out.length : Int) = σ.out.length + sumC (accH rules size σ zs).2.2 + six (accH rules size σ zs).2.1.err - six σ.err
  | [], σ, h, _, ho => ⟨h, rfl, Nat.le_refl _, ho, Nat.le_refl _, by show (σ.out.length : Int) = σ.out.length + 0 + six σ.err - six σ.err; omega⟩
  | x :: r, σ, h, hb, ho => by
    have hbr : byt r := fun z hz => hb z (List.mem_cons_of_mem _ hz)
    cases hf : fitsH rules size σ x with
    | false =>
      rw [acc_stop hf]
      exact ⟨h, rfl, Nat.zero_le _, ho, Nat.zero_le _, by show (σ.out.length : Int) = σ.out.length + 0 + six σ.err - six σ.err; omega⟩
    | true =>
      obtain ⟨he, hst, hc⟩ := come_cases h (hb x (List.mem_cons_self ..)) hf
      rw [acc_step hf, List.length_cons]
      have hlo : (comeH rules σ x).1.out.length ≤ size ∧ (comeH rules σ x).2.length ≤ 1 ∧ (comeH rules σ x).1.op = σ.op ∧ ((comeH rules σ x).1.out.length : Int) = σ.out.length + sumC (comeH rules σ x).2 + six (comeH rules σ x).1.err - six σ.err := by
        rw [he]
        rcases hc with ⟨e, h1, h2, hce, h3⟩ | ⟨q, hq, h6, hce, h3⟩ | hce
        · rw [hce]
          have hl : (σ.out ++ frmZ (errZ e)).length = σ.out.length + 6 := by rw [List.length_append]; rfl
          refine ⟨by show (σ.out ++ frmZ (errZ e)).length ≤ size; omega, Nat.zero_le _, rfl, ?_⟩
          show ((σ.out ++ frmZ (errZ e)).length : Int) = σ.out.length + 0 + six e - six 0
          unfold six
          rw [if_pos (by omega), if_neg (by simp), hl]; omega
        · rw [hce]
          have hm := Int.emod_nonneg q.cost (show (30 : Int) ≠ 0 by omega)
          have hl : (σ.out ++ hoA q).length = σ.out.length + (q.cost % 30).toNat := by rw [List.length_append, hoA_len]
          refine ⟨by show (σ.out ++ hoA q).length ≤ size; omega, Nat.le_refl _, rfl, ?_⟩
          show ((σ.out ++ hoA q).length : Int) = σ.out.length + (0 + q.cost % 30) + six 0 - six 0
          rw [hl]; omega
        · rw [hce]
          refine ⟨ho, Nat.zero_le _, rfl, ?_⟩
          show (σ.out.length : Int) = σ.out.length + 0 + six 0 - six 0
          omega
      obtain ⟨g1, g2, g3, g4⟩ := hlo
      obtain ⟨i1, i2, i3, i4, i5, i6⟩ := acc_sum r (comeH rules σ x).1 hst hbr g1
      refine ⟨i1, i2.trans g3, by show _ + 1 ≤ _; omega, i4, by show ((comeH rules σ x).2 ++ _).length ≤ _ + 1; rw [List.length_append]; omega, ?_⟩
      show ((accH rules size (comeH rules σ x).1 r).2.1.out.length : Int) = (σ.out.length : Int) + sumC ((comeH rules σ x).2 ++ (accH rules size (comeH rules σ x).1 r).2.2) + six (accH rules size (comeH rules σ x).1 r).2.1.err - six σ.err
      rw [sumC_app]
      omega
theorem hoA_byt (q : Req) : byt (hoA q) := fun z hz => by
  rw [(List.mem_replicate.1 hz).2]
  omega
theorem come_outb {rules : Int} {size : Nat} {σ : CnS} {x : Int} (h : StOK rules σ) (hx : 0 ≤ x ∧ x ≤ 255) (hf : fitsH rules size σ x = true) (ho : byt σ.out) : byt (comeH rules σ x).1.out := by
  obtain ⟨_, _, hc⟩ := come_cases h hx hf
  rcases hc with ⟨e, h1, h2, hce, _⟩ | ⟨q, hq, _, hce, _⟩ | hce
  · rw [hce]; exact byt_app ho (fault_byt (by omega))
  · rw [hce]; exact byt_app ho (hoA_byt q)
  · rw [hce]; exact ho
theorem acc_outb {rules : Int} {size : Nat} : ∀ (zs : List Int) (σ : CnS), StOK rules σ → byt zs → byt σ.out → byt (accH rules size σ zs).2.1.out
  | [], σ, _, _, ho => ho
  | x :: r, σ, h, hb, ho => by
    cases hf : fitsH rules size σ x with
    | false => rw [acc_stop hf]; exact ho
    | true =>
      have hx := hb x (List.mem_cons_self ..)
      rw [acc_step hf]
      exact acc_outb r _ (come_cases h hx hf).2.1 (fun z hz => hb z (List.mem_cons_of_mem _ hz)) (come_outb h hx hf ho)
theorem acc_okq {rules : Int} {size : Nat} : ∀ (zs : List Int) (σ : CnS), StOK rules σ → byt zs → ∀ q ∈ (accH rules size σ zs).2.2, okQ rules q
  | [], σ, _, _ => fun q hq => by cases hq
  | x :: r, σ, h, hb => by
    cases hf : fitsH rules size σ x with
    | false => rw [acc_stop hf]; intro q hq; cases hq
    | true =>
      have hx := hb x (List.mem_cons_self ..)
      obtain ⟨_, hst, hc⟩ := come_cases h hx hf
      rw [acc_step hf]
      intro q hq
      rcases List.mem_append.1 hq with hq | hq
      · rcases hc with ⟨e, _, _, hce, _⟩ | ⟨q', hq', _, hce, _⟩ | hce
        · rw [hce] at hq; cases hq
        · rw [hce] at hq; rw [List.mem_singleton.1 hq]; exact hq'
        · rw [hce] at hq; cases hq
      · exact acc_okq r _ hst (fun z hz => hb z (List.mem_cons_of_mem _ hz)) q hq
theorem sumC_in : ∀ l : List Req, 0 ≤ sumC l ∧ sumC l ≤ 30 * (l.length : Int)
  | [] => by simp [sumC]
  | q :: l => by
    have ih := sumC_in l
    have h1 := Int.emod_nonneg q.cost (show (30 : Int) ≠ 0 by omega)
    have h2 := Int.emod_lt_of_pos q.cost (show (0 : Int) < 30 by omega)
    rw [List.length_cons]
    unfold sumC
    omega
theorem sumC_take {l : List Req} {i : Nat} (h : i < l.length) : sumC (l.take (i + 1)) = sumC (l.take i) + l[i].cost % 30 := by
  rw [List.take_add_one, sumC_app, List.getElem?_eq_getElem h]
  show sumC (l.take i) + (0 + l[i].cost % 30) = _
  omega
end Go.Proofs.Ytaghookljjpllaa
