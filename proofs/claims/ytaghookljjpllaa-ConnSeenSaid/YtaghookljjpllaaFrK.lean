/- Requests as bytes: more plain mathematics. -/
import Derived.Test.YtaghookljjpllaaFrM
namespace Go.Proofs.Ytaghookljjpllaa
set_option linter.unusedSimpArgs false
set_option linter.unusedVariables false
theorem flt_rules {z : List Int} {i : Nat} (r r' : Int) (h : i ≠ 5) : fltZ z r i = fltZ z r' i := by
  unfold fltZ
  simp only [h, false_and, if_false]
theorem clean_rules {z : List Int} {j : Nat} {r : Int} (r' : Int) (h : cleanZ z r j) (hj : j ≤ 5) : cleanZ z r' j := fun i hi => by
  rw [← flt_rules r r' (by omega)]
  exact h i hi
theorem enc5 (q : Req) : (encZ q).getD 5 0 = q.rule := by
  unfold encZ
  split
  · rfl
  · split <;> rfl
theorem parse5 {q : Req} {R : Int} {y : List Int} (h : rightP q 256) (hl : 6 ≤ y.length) (hy : ∀ i < 6, (encZ q).getD i 0 = y.getD i 0) (hR : R ≤ q.rule) : parseZ y R = (req0, 0, 9) := by
  have h6 := enc_six h
  have hc : cleanZ y R 5 := clean_same (fun i hi => hy i (by omega)) (clean_rules R (enc_clean (by omega) h 5 (by omega)) (by omega))
  have hf : fltZ y R 5 = 9 := by
    have e : y.getD 5 0 = q.rule := by rw [← hy 5 (by omega), enc5]
    obtain ⟨x, hx⟩ : ∃ x, x = y.getD 5 0 := ⟨_, rfl⟩
    have e' : x = q.rule := hx.trans e
    unfold fltZ
    simp only [← hx]
    simp
    omega
  rw [parse_fault 5 (by omega) hc (by rw [hf]; decide), hf]
theorem right_more {q : Req} {R : Int} (h : rightP q 256) (hR : q.rule < R) : rightP q R := ⟨⟨h.1.1, hR, h.1.2.2⟩, h.2⟩
theorem right_less {q : Req} {R : Int} (h : rightP q R) (hR : R ≤ 256) : rightP q 256 := ⟨⟨h.1.1, by have := h.1.2.1; omega, h.1.2.2⟩, h.2⟩
theorem parse_take {q : Req} {R : Int} (hR : R ≤ 256) (h : rightP q R) (hc : 0 ≤ q.cost ∧ q.cost < 4294967296) (k : Nat) : ∃ (p : Req) (n : Int), parseZ ((encZ q).take k) R = (p, n, 0) := by
  by_cases hk : k < (encZ q).length
  · exact ⟨_, _, parse_part hR h k hk⟩
  · rw [List.take_of_length_le (by omega)]
    have := parse_enc hR h hc []
    rw [List.append_nil] at this
    exact ⟨_, _, this⟩
theorem parse_take5 {q : Req} (R : Int) (h : rightP q 256) : parseZ ((encZ q).take 5) R = (req0, 0, 0) := by
  have h6 := enc_six h
  refine parse_all ?_
  rw [List.length_take, Nat.min_eq_left (by omega)]
  exact clean_rules R (clean_same (fun k hk => (getD_take hk).symm) (enc_clean (by omega) h 5 (by omega))) (by omega)
theorem enc_byt {q : Req} (h : rightP q 256) (hk : byt q.key) : byt (encZ q) := by
  obtain ⟨⟨h1, h2, h3⟩, h4⟩ := h
  unfold encZ
  rcases h4 with ⟨ho, hl, h0⟩ | ⟨ho, hc, _, h0⟩ | ⟨ho, hc, _, h0⟩
  · rw [if_pos (by omega)]
    intro z hz
    simp only [List.mem_cons, List.mem_append] at hz
    rcases hz with rfl | rfl | rfl | rfl | rfl | rfl | hz | rfl | hz
    all_goals first | omega | exact be_byt _ _ z hz | exact hk z hz
  · rw [if_neg (by omega), if_neg (by omega)]
    intro z hz; simp at hz; omega
  · rw [if_neg (by omega), if_pos ho]
    intro z hz; simp at hz; omega
end Go.Proofs.Ytaghookljjpllaa
