/- The contracts of layer 21 (report): Said of what is read; streams, plain mathematics. -/
import Derived.Test.YtghhoofdbmgacaaDoorRpD
namespace Go.Proofs.YtghhoofdbmgacaaDoor
set_option linter.unusedSimpArgs false
set_option linter.unusedVariables false
open Go.ChangeShapes Go.WideShapes Go.ChangeAt Go.RowKit Go.Deep
theorem rsaid_any (op ru v re rt a d b c wt er : Int) (l : List Cnt) (hs : okS ⟨op, ru, v, re, rt, a, d, b, c, wt, l, er⟩) (LA : Option Addr) (LN LC : Nat) (base : Nat) (w : World) (ht : Tb w)
    (hls : ∃ ls : List CV, zs ls = l ∧ w.ownsRow base 29 3 (.slice LA LN LC) ls.length (cells3 ls)) :
    Calls Tryd.prog 10 #[.agg (sdC op ru v re rt a d b c wt (.slice LA LN LC) er)] w fun e w' => e = .returned (.string (strOfNums (lineZ ⟨op, ru, v, re, rt, a, d, b, c, wt, l, er⟩))) ∧ Below w.heap.size w w' := by
  rcases hs with ⟨ho, _, h1, h2, e⟩ | ⟨hru, h1, h2, h3, h4, h5, e⟩ | ⟨hru, hll, hok, e⟩ | ⟨herr, e⟩
  · have ho' : op = 1 ∨ op = 2 := ho
    rcases ho' with rfl | rfl
    · have := rsaid_ans 1 v re rt (.slice LA LN LC) ru a d b c wt er (.inl rfl) h1 h2 w ht [99, 104, 101, 99, 107] (by rw [if_pos rfl])
      exact this
    · have := rsaid_ans 2 v re rt (.slice LA LN LC) ru a d b c wt er (.inr rfl) h1 h2 w ht [112, 101, 101, 107] (by rw [if_neg (by omega)])
      exact this
  · simp only [totS, Sd.mk.injEq] at e
    obtain ⟨rfl, _, rfl, rfl, rfl, _, _, _, _, _, rfl, rfl⟩ := e
    exact rsaid_tot ru a d b c wt (.slice LA LN LC) 0 0 0 0 (by have h : (0 : Int) ≤ ru ∧ ru ≤ 255 := hru; unfold i64P; omega) h1 h2 h3 h4 h5 w ht
  · simp only [topS, Sd.mk.injEq] at e
    obtain ⟨rfl, _, rfl, rfl, rfl, rfl, rfl, rfl, rfl, rfl, _, rfl⟩ := e
    obtain ⟨ls, rfl, ho⟩ := hls
    obtain ⟨A, cap, e, hcv⟩ := cv_at ho
    injection e with e1 e2 e3
    subst e1 e2 e3
    have h255 : ls.length ≤ 255 := by have h : (zs ls).length ≤ 255 := hll; rwa [zs_length] at h
    exact rsaid_top ru LA LC ls 0 0 0 0 0 0 0 0 0 (by have h : (0 : Int) ≤ ru ∧ ru ≤ 255 := hru; unfold i64P; omega) h255 hok w ht hcv
  · simp only [errS, Sd.mk.injEq] at e
    obtain ⟨rfl, rfl, rfl, rfl, rfl, rfl, rfl, rfl, rfl, rfl, rfl, _⟩ := e
    exact rsaid_err er (.slice LA LN LC) 0 0 0 0 0 0 0 0 0 (by have h : (1 : Int) ≤ er ∧ er ≤ 255 := herr; unfold i64P; omega) w ht
theorem ver_len' (v : Int) : (verZ v).length ≤ 5 := ver_len v
theorem line_len {s : Sd} (h : okS s) : (lineZ s).length ≤ 52000 := by
  obtain ⟨op, ru, v, re, rt, a, d, b, c, wt, l, er⟩ := s
  rcases h with ⟨ho, _, h1, h2, e⟩ | ⟨hru, h1, h2, h3, h4, h5, e⟩ | ⟨hru, hll, hok, e⟩ | ⟨herr, e⟩
  · have g1 := ver_len v
    have g2 := nums_len [re, rt] (mem_two (P := i64P) h1 h2)
    simp only [List.length_cons, List.length_nil] at g2
    have ho' : op = 1 ∨ op = 2 := ho
    rcases ho' with rfl | rfl
    · show ([99, 104, 101, 99, 107] ++ (32 :: (verZ v ++ numsZ [re, rt])) : List Int).length ≤ _
      simp only [List.length_append, List.length_cons, List.length_nil]
      omega
    · show ([112, 101, 101, 107] ++ (32 :: (verZ v ++ numsZ [re, rt])) : List Int).length ≤ _
      simp only [List.length_append, List.length_cons, List.length_nil]
      omega
  · simp only [totS, Sd.mk.injEq] at e
    obtain ⟨rfl, _⟩ := e
    have g2 := nums_len [ru, a, d, b, c, wt] (mem_six (P := i64P) (by have h : (0 : Int) ≤ ru ∧ ru ≤ 255 := hru; unfold i64P; omega) h1 h2 h3 h4 h5)
    simp only [List.length_cons, List.length_nil] at g2
    show ([115, 116, 97, 116, 115] ++ numsZ [ru, a, d, b, c, wt] : List Int).length ≤ _
    simp only [List.length_append, List.length_cons, List.length_nil]
    omega
  · simp only [topS, Sd.mk.injEq] at e
    obtain ⟨rfl, _⟩ := e
    have g2 := nums_len [ru] (mem_one (P := i64P) (by have h : (0 : Int) ≤ ru ∧ ru ≤ 255 := hru; unfold i64P; omega))
    have g3 := rows_len l hok
    have g4 : l.length ≤ 255 := hll
    simp only [List.length_cons, List.length_nil] at g2
    show ([116, 111, 112] ++ (numsZ [ru] ++ rowsZ l) : List Int).length ≤ _
    simp only [List.length_append, List.length_cons, List.length_nil]
    omega
  · simp only [errS, Sd.mk.injEq] at e
    obtain ⟨rfl, _⟩ := e
    have g2 := nums_len [er] (mem_one (P := i64P) (by have h : (1 : Int) ≤ er ∧ er ≤ 255 := herr; unfold i64P; omega))
    simp only [List.length_cons, List.length_nil] at g2
    show ([102, 97, 117, 108, 116] ++ numsZ [er] : List Int).length ≤ _
    simp only [List.length_append, List.length_cons, List.length_nil]
    omega
/-- so many answers on, at a stream's head: how far, the lines. -/
def stp (z : List Int) : Nat → Option (Nat × List Int)
  | 0 => some (0, [])
  | j + 1 => match stp z j with
    | none => none
    | some (t, L) => match readZ (z.drop t) with
      | none => none
      | some (s, m) => some (t + m, L ++ (lineZ s ++ [10]))
theorem stp_step {z : List Int} {j t m : Nat} {L : List Int} {s : Sd} (h : stp z j = some (t, L)) (hr : readZ (z.drop t) = some (s, m)) : stp z (j + 1) = some (t + m, L ++ (lineZ s ++ [10])) := by
  simp only [stp, h, hr]
theorem stp_end {z : List Int} {j t : Nat} {L : List Int} (h : stp z j = some (t, L)) (hr : readZ (z.drop t) = none) : stp z (j + 1) = none := by
  simp only [stp, h, hr]
theorem stp_back {z : List Int} {j : Nat} {r : Nat × List Int} (h : stp z (j + 1) = some r) : ∃ t L s m, stp z j = some (t, L) ∧ readZ (z.drop t) = some (s, m) ∧ r = (t + m, L ++ (lineZ s ++ [10])) := by
  unfold stp at h
  cases hj : stp z j with
  | none => rw [hj] at h; cases h
  | some tl =>
    obtain ⟨t, L⟩ := tl
    rw [hj] at h
    cases hr : readZ (z.drop t) with
    | none => simp only [hr] at h; cases h
    | some sm =>
      obtain ⟨s, m⟩ := sm
      simp only [hr, Option.some.injEq] at h
      exact ⟨t, L, s, m, rfl, hr, h.symm⟩
theorem stp_none {z : List Int} {j : Nat} (h : stp z j = none) : ∀ k, stp z (j + k) = none
  | 0 => h
  | k + 1 => by
    have := stp_none h k
    rw [← Nat.add_assoc]
    simp only [stp, this]
theorem stp_uniq {z : List Int} {i j : Nat} {t u : Nat} {L M : List Int} (h : stp z i = some (t, L)) (he : stp z (i + 1) = none) (g : stp z j = some (u, M)) (ge : stp z (j + 1) = none) : i = j := by
  rcases Nat.lt_trichotomy i j with hl | hl | hl
  · have := stp_none he (j - (i + 1))
    rw [show i + 1 + (j - (i + 1)) = j by omega, g] at this
    cases this
  · exact hl
  · have := stp_none ge (i - (j + 1))
    rw [show j + 1 + (i - (j + 1)) = i by omega, h] at this
    cases this
def cnt (l : List Int) : Nat := l.countP (fun x => x == 10)
theorem cnt_app (l m : List Int) : cnt (l ++ m) = cnt l + cnt m := List.countP_append
theorem cnt_txt {l : List Int} (h : txt l) : cnt l = 0 := by
  unfold cnt
  rw [List.countP_eq_zero]
  intro x hx hh
  have := h x hx
  have e : x = 10 := by simpa using hh
  omega
/-- what a stream's lines are. -/
theorem stp_ok {z : List Int} (hb : byt z) : ∀ {j t : Nat} {L : List Int}, stp z j = some (t, L) → t ≤ z.length ∧ 6 * j ≤ t ∧ L.length ≤ 52001 * j ∧ (∀ x ∈ L, x = 10 ∨ (32 ≤ x ∧ x ≤ 122)) ∧ cnt L = j
  | 0, t, L, h => by
    simp only [stp, Option.some.injEq, Prod.mk.injEq] at h
    obtain ⟨rfl, rfl⟩ := h
    exact ⟨Nat.zero_le _, Nat.le_refl _, Nat.zero_le _, (fun x hx => by cases hx), rfl⟩
  | j + 1, t, L, h => by
    obtain ⟨t0, L0, s, m, h0, hr, e⟩ := stp_back h
    injection e with e1 e2
    subst e1 e2
    obtain ⟨i1, i2, i3, i4, i5⟩ := stp_ok hb h0
    obtain ⟨_, k2, k3, k4⟩ := frm_read (byt_drop hb t0) hr
    rw [List.length_drop] at k2
    have k5 := line_len k3
    refine ⟨by omega, by omega, ?_, ?_, ?_⟩
    · simp only [List.length_append, List.length_singleton]
      omega
    · intro x hx
      rcases List.mem_append.1 hx with hx | hx
      · exact i4 x hx
      · rcases List.mem_append.1 hx with hx | hx
        · exact .inr (txt_line k3 x hx)
        · exact .inl (by simpa using hx)
    · rw [cnt_app, cnt_app, i5, cnt_txt (txt_line k3)]
      rfl
theorem read_more {z : List Int} {s : Sd} {m : Nat} (hb : byt z) (h : readZ z = some (s, m)) (y : List Int) : readZ (z ++ y) = some (s, m) := by
  obtain ⟨h1, h2, h3, h4⟩ := frm_read hb h
  unfold readZ at h ⊢
  have hl : 4 ≤ z.length := by omega
  have e : ∀ i, i < z.length → (z ++ y).getD i 0 = z.getD i 0 := by
    intro i hi
    simp [List.getD, List.getElem?_append_left hi]
  split at h
  · cases h
  rename_i c1
  split at h
  · cases h
  rename_i c2
  rw [e 0 (by omega), e 1 (by omega), e 2 (by omega), e 3 (by omega), List.length_append]
  have c3 : ¬ (z.length + y.length < 4 ∨ z.getD 0 0 ≠ 168 ∨ z.getD 1 0 ≠ 1) := by omega
  rw [if_neg c3, if_neg (by omega)]
  rw [List.drop_append_of_le_length (by omega), List.take_append_of_le_length (by rw [List.length_drop]; omega)]
  exact h
theorem stp_more {z : List Int} (hb : byt z) (y : List Int) : ∀ {j t : Nat} {L : List Int}, stp z j = some (t, L) → stp (z ++ y) j = some (t, L)
  | 0, _, _, h => h
  | j + 1, t, L, h => by
    obtain ⟨t0, L0, s, m, h0, hr, e⟩ := stp_back h
    have i1 := (stp_ok hb h0).1
    have i0 := stp_more hb y h0
    rw [e]
    refine stp_step i0 ?_
    rw [List.drop_append_of_le_length i1]
    exact read_more (byt_drop hb t0) hr y
theorem stp_join {a b : List Int} (ha : byt a) {i : Nat} {L : List Int} (h : stp a i = some (a.length, L)) : ∀ {j t : Nat} {M : List Int}, stp b j = some (t, M) → stp (a ++ b) (i + j) = some (a.length + t, L ++ M)
  | 0, t, M, g => by
    simp only [stp, Option.some.injEq, Prod.mk.injEq] at g
    obtain ⟨rfl, rfl⟩ := g
    rw [Nat.add_zero, Nat.add_zero, List.append_nil]
    exact stp_more ha b h
  | j + 1, t, M, g => by
    obtain ⟨t0, L0, s, m, h0, hr, e⟩ := stp_back g
    injection e with e1 e2
    subst e1 e2
    have i0 := stp_join ha h h0
    rw [← Nat.add_assoc, ← Nat.add_assoc, ← List.append_assoc L]
    refine stp_step i0 ?_
    rw [List.drop_append, show a.length + t0 - a.length = t0 by omega, List.drop_eq_nil_of_le (by omega), List.nil_append]
    exact hr
theorem read_nil : readZ [] = none := rfl
end Go.Proofs.YtghhoofdbmgacaaDoor
