/- The laws of layer 19 (script), walked: any bytes. -/
import Derived.Test.YtodlgkpgpffpaaaScF
namespace Go.Proofs.Ytodlgkpgpffpaaa
open Go.ChangeShapes Go.WideShapes Go.ChangeAt Go.RowKit
/-- how many bytes acts want at least. -/
def wantA : List Act6 → Nat
  | [] => 0
  | a :: r => 1 + a.dl + wantA r
theorem wantA_snoc (l : List Act6) (a : Act6) : wantA (l ++ [a]) = wantA l + (1 + a.dl) := by
  induction l with
  | nil => simp [wantA]
  | cons b r ih => rw [List.cons_append, wantA, wantA, ih]; omega
/-- the acts are as they may be, none before a time. -/
def okA : Int → List Act6 → Prop
  | _, [] => True
  | last, a :: r => (0 ≤ a.kind ∧ a.kind ≤ 4) ∧ (0 ≤ a.conn ∧ a.conn ≤ 15) ∧ (last ≤ a.clock ∧ a.clock ≤ 9223372036854775807) ∧ a.sl ≤ 3 ∧ (0 ≤ a.n ∧ a.n ≤ 255) ∧ a.dl ≤ 255 ∧ okA a.clock r
theorem step_ok {q : List Int} {now : Int} (hq : byt q) (hn : 0 ≤ now ∧ now ≤ 9223372036854775807) :
    (0 ≤ (stepA q now).1.kind ∧ (stepA q now).1.kind ≤ 4) ∧ (0 ≤ (stepA q now).1.conn ∧ (stepA q now).1.conn ≤ 15) ∧ (now ≤ (stepA q now).1.clock ∧ (stepA q now).1.clock ≤ 9223372036854775807) ∧ (stepA q now).1.sl ≤ 3 ∧ (0 ≤ (stepA q now).1.n ∧ (stepA q now).1.n ≤ 255) ∧ (stepA q now).1.dl ≤ 255 ∧ byt (stepA q now).2 := by
  have b0 := pre_bd hq 1
  have hq1 := byt_drop hq 1
  have b1 := pre_bd hq1 2
  have hq2 := byt_drop hq1 2
  have b2 := pre_bd hq2 1
  have hq3 := byt_drop hq2 1
  have e1 : (256 : Int) ^ 1 = 256 := rfl
  have e2 : (256 : Int) ^ 2 = 65536 := rfl
  rw [e1] at b0 b2
  rw [e2] at b1
  have hl : now ≤ laterZ now (preZ (q.drop 1) 2) ∧ laterZ now (preZ (q.drop 1) 2) ≤ 9223372036854775807 := by
    have := by_bd _ b1
    unfold laterZ
    split <;> omega
  unfold stepA
  simp only
  split
  · refine ⟨?_, ?_, hl, ?_, ?_, ?_, byt_drop hq3 _⟩ <;> simp only <;> omega
  · split
    · refine ⟨?_, ?_, hl, ?_, ?_, ?_, hq3⟩ <;> simp only <;> omega
    · split
      · refine ⟨?_, ?_, hl, ?_, ?_, ?_, byt_drop hq3 _⟩ <;> simp only <;> omega
      · refine ⟨?_, ?_, hl, ?_, ?_, ?_, hq2⟩ <;> simp only <;> omega
theorem step_want {q : List Int} {now : Int} (hq : q ≠ []) : 1 + (stepA q now).1.dl + (stepA q now).2.length ≤ q.length := by
  have h0 : 0 < q.length := List.length_pos_iff.2 hq
  unfold stepA
  simp only
  split
  · simp only [List.length_drop]; omega
  · split
    · simp only [List.length_drop]; omega
    · split <;> simp only [List.length_drop] <;> omega
theorem dec_ok : ∀ (f : Nat) (q : List Int) (now : Int), byt q → 0 ≤ now ∧ now ≤ 9223372036854775807 → okA now (decF f q now) ∧ wantA (decF f q now) ≤ q.length
  | 0, q, now, _, _ => by simp [decF, okA, wantA]
  | f + 1, q, now, hq, hn => by
    rw [decF]
    by_cases h : q = []
    · rw [if_pos h]; simp [okA, wantA]
    · rw [if_neg h]
      obtain ⟨h1, h2, h3, h4, h5, h6, h7⟩ := step_ok hq hn
      have ih := dec_ok f (stepA q now).2 (stepA q now).1.clock h7 ⟨by omega, h3.2⟩
      have hw := step_want (now := now) h
      exact ⟨⟨h1, h2, h3, h4, h5, h6, ih.1⟩, by rw [wantA]; omega⟩
theorem okA_drop : ∀ (l : List Act6) (last : Int) (j : Nat) (hj : j < l.length), okA last l → okA (l[j]).clock (l.drop (j + 1)) ∧ (0 ≤ (l[j]).kind ∧ (l[j]).kind ≤ 4) ∧ (0 ≤ (l[j]).conn ∧ (l[j]).conn ≤ 15) ∧ (l[j]).clock ≤ 9223372036854775807 ∧ (l[j]).sl ≤ 3 ∧ (0 ≤ (l[j]).n ∧ (l[j]).n ≤ 255) ∧ (l[j]).dl ≤ 255
  | a :: r, last, 0, _, h => ⟨h.2.2.2.2.2.2, h.1, h.2.1, h.2.2.1.2, h.2.2.2.1, h.2.2.2.2.1, h.2.2.2.2.2.1⟩
  | a :: r, last, j + 1, hj, h => okA_drop r a.clock j (by simpa using hj) h.2.2.2.2.2.2
theorem okA_head {l : List Act6} {last : Int} {j : Nat} (hj : j < l.length) (h : okA last (l.drop j)) : last ≤ (l[j]).clock := by
  rw [List.drop_eq_getElem_cons hj] at h
  exact h.2.2.1.1
theorem okA_next {l : List Act6} {last : Int} {j : Nat} (hj : j < l.length) (h : okA last (l.drop j)) : okA (l[j]).clock (l.drop (j + 1)) ∧ (0 ≤ (l[j]).kind ∧ (l[j]).kind ≤ 4) ∧ (0 ≤ (l[j]).conn ∧ (l[j]).conn ≤ 15) ∧ (l[j]).clock ≤ 9223372036854775807 ∧ (l[j]).sl ≤ 3 ∧ (0 ≤ (l[j]).n ∧ (l[j]).n ≤ 255) ∧ (l[j]).dl ≤ 255 := by
  rw [List.drop_eq_getElem_cons hj] at h
  exact ⟨h.2.2.2.2.2.2, h.1, h.2.1, h.2.2.1.2, h.2.2.2.1, h.2.2.2.2.1, h.2.2.2.2.2.1⟩
theorem wantA_le (l : List Act6) (j : Nat) : wantA (l.take j) ≤ wantA l := by
  induction l generalizing j with
  | nil => simp [wantA]
  | cons a r ih =>
    cases j with
    | zero => simp [wantA]
    | succ j => rw [List.take_succ_cons, wantA, wantA]; have := ih j; omega
theorem dec_pos (f : Nat) {q : List Int} (now : Int) (h : q ≠ []) : 0 < (decF (f + 1) q now).length := by
  rw [decF, if_neg h]; simp
set_option maxHeartbeats 4000000 in
set_option maxRecDepth 100000 in
theorem any_law (w : World) (A : Option Addr) (n c : Nat) (zs : List Int) (hr : RdI w .u8 A n c zs) :
    Calls Try.prog 4 #[.slice A n c] w fun e w' => e = .returned (.bool true) ∧ Below w.heap.size w w' := by
  have hcp := hr.cap
  have hmx := hr.max
  unfold maxLen at hmx
  by_cases hn : (2000 : Int) < (n : Int)
  · clear hr
    go_enter Try.func4, Try.ntmps4
    go_wp2_with (go_at_call 7; refine (fit_any _).mono ?_; rintro e w1 ⟨rfl, b1⟩; have B1 := Lib.hid b1; clear b1)
    go_ret
    exact ⟨rfl, B1.out⟩
  have HR := Lib.hid hr
  have HL := Lib.hid hr.len
  have hby : byt zs := fun z hz => wf_u8 (hr.wf z hz)
  obtain ⟨acts, hacts⟩ : ∃ l, l = decF zs.length zs 0 := ⟨_, rfl⟩
  have HOK := Lib.hid (show okA 0 acts ∧ wantA acts ≤ zs.length from by rw [hacts]; exact dec_ok _ _ _ hby (by omega))
  have hpos : (n = 0 ∧ acts = []) ∨ (0 < n ∧ 0 < acts.length) := by
    rcases Nat.eq_zero_or_pos n with h0 | h0
    · left
      have : zs = [] := List.length_eq_zero_iff.1 (by rw [hr.len, h0])
      refine ⟨h0, by rw [hacts, this]; rfl⟩
    · right
      refine ⟨h0, ?_⟩
      obtain ⟨m, hm⟩ : ∃ m, zs.length = m + 1 := ⟨zs.length - 1, by have := hr.len; omega⟩
      rw [hacts, hm]
      exact dec_pos m 0 (by intro h; rw [h] at hm; simp at hm)
  have HPOS := Lib.hid hpos
  have HACTS := Lib.hid hacts
  clear hr hby hacts hpos
  go_enter Try.func4, Try.ntmps4
  go_wp2_with (first
    | (go_at_call 7; refine (fit_any _).mono ?_; rintro e w1 ⟨rfl, b1⟩; have B1 := Lib.hid b1; have CD := Lib.hid (decode_x A n c zs w1 (HR.out.below b1) (by omega)); clear b1)
    | (go_at_call 11; ((with_reducible refine CD.out.mono ?_); rintro e w2 ⟨A1, c1, ls, rfl, ha, hd, hb⟩; have HA := Lib.hid ha; rw [← HACTS.out] at hd; have HD := Lib.hid hd; have HB := Lib.hid (B1.out.trans (hb.mono B1.out.size)); have lcp := ha.cap; have lmx := ha.max; unfold maxLen at lmx; clear ha hd hb)))
  go_loopg [4, 5, 17] ls.length (fun k s4 s5 sj wr => ∃ (j : Nat) (last : Int), j ≤ ls.length ∧ k = ls.length - j ∧ s4 = .int .i64 last ∧ s5 = .int .i64 ((wantA (acts.take j) : Nat) : Int) ∧ sj = .int .i64 (j : Int) ∧ okA last (acts.drop j) ∧ (0 ≤ last ∧ last ≤ 9223372036854775807) ∧ Below w2.heap.size w2 wr)
  case atStart => exact ⟨0, 0, by omega, by omega, rfl, rfl, rfl, HOK.out.1, by omega, Below.refl _ _⟩
  case round =>
    obtain ⟨j, last, hj, hkk, rfl, rfl, rfl, hok, hlast, hb⟩ := hrel
    have hll : acts.length = ls.length := by rw [← HD.out, List.length_map]
    have HK := Lib.hid hkk
    have HBR := Lib.hid hb
    have HO2 := Lib.hid hok
    have HLL := Lib.hid hll
    obtain ⟨s, hs⟩ : ∃ s, s = wantA (acts.take j) := ⟨_, rfl⟩
    rw [← hs]
    have hsb : s ≤ 2000 := by have := wantA_le acts j; have := HOK.out.2; have := HL.out; omega
    have HS := Lib.hid hs
    clear hkk hok hll hs
    by_cases hjn : j < ls.length
    · have hja : j < acts.length := by rw [HLL.out]; exact hjn
      have hnx := okA_next hja HO2.out
      have hhd := okA_head hja HO2.out
      have h6 := to6_at HD.out j hjn hja
      obtain ⟨g, rfl, _, hlt, hc⟩ := (HA.out.keep hb).at_ (by omega)
      have c0 := hc j hjn 0 (by omega)
      have c1 := hc j hjn 1 (by omega)
      have c2 := hc j hjn 2 (by omega)
      have c3 := hc j hjn 3 (by omega)
      have c4 := hc j hjn 4 (by omega)
      have c5 := hc j hjn 5 (by omega)
      obtain ⟨a, haa⟩ : ∃ a, a = ls[j] := ⟨_, rfl⟩
      rw [← haa] at c0 c1 c2 c3 c4 c5 h6
      rw [← h6] at hnx hhd
      have H6 := Lib.hid h6
      clear haa h6 hc
      obtain ⟨kd, ck, cn, aA, dl, dc, an, aB, sl, sc⟩ := a
      simp [ActV.cells] at c0 c1 c2 c3 c4 c5
      simp only [ActV.to6] at hnx hhd
      obtain ⟨hnext, ⟨m1, m2⟩, ⟨m3, m4⟩, m5, m6, ⟨m7, m8⟩, m9⟩ := hnx
      have HNX := Lib.hid hnext
      have HWT := Lib.hid (show wantA (acts.take (j + 1)) = s + (1 + dl) from by rw [List.take_succ_eq_append_getElem hja, wantA_snoc, ← HS.out, ← H6.out]; rfl)
      clear hnext hb
      go_wp2
      go_roundg (ls.length - (j + 1))
      case measure => have := HK.out; omega
      case rel =>
        refine ⟨j + 1, ck, by omega, by omega, rfl, ?_, by go_num, HNX.out, by omega, HBR.out.alloc HBR.out.size _⟩
        rw [HWT.out]
        go_num
    · have hje : j = ls.length := by omega
      have hsl : s ≤ n := by have := wantA_le acts j; have := HOK.out.2; have := HL.out; have := HS.out; omega
      rcases HPOS.out with ⟨h0, h1⟩ | ⟨h0, h1⟩
      · have hl0 : ls.length = 0 := by rw [← HLL.out, h1]; rfl
        clear hb
        go_wp2
        go_ret
        exact ⟨by go_num, HB.out.trans (HBR.out.mono HB.out.size)⟩
      · have hl0 : 0 < ls.length := by rw [← HLL.out]; exact h1
        clear hb
        go_wp2
        go_ret
        exact ⟨by go_num, HB.out.trans (HBR.out.mono HB.out.size)⟩
end Go.Proofs.Ytodlgkpgpffpaaa
