/- Answers as bytes: plain mathematics. -/
import Derived.Test.YtaghookljjpllaaFrM
namespace Go.Proofs.Ytaghookljjpllaa
set_option linter.unusedSimpArgs false
set_option linter.unusedVariables false
theorem be_wrap (x : Int) : be 8 (x % 18446744073709551616) = be 8 x := by
  simp only [be, List.nil_append, List.cons_append, List.cons.injEq, and_true]
  refine ⟨?_, ?_, ?_, ?_, ?_, ?_, ?_, ?_⟩ <;> omega
/-- a number of 64 bits, as one with a sign. -/
def sg (x : Int) : Int := if x < 9223372036854775808 then x else x - 18446744073709551616
def i64P (x : Int) : Prop := -9223372036854775808 ≤ x ∧ x ≤ 9223372036854775807
def num8 (z : List Int) : Int := sg (preZ z 8)
theorem pre8_bd {q : List Int} (h : byt q) : 0 ≤ preZ q 8 ∧ preZ q 8 < 18446744073709551616 := pre_bd h 8
theorem sg_mod {x : Int} (h : 0 ≤ x ∧ x < 18446744073709551616) : sg x % 18446744073709551616 = x := by unfold sg; split <;> omega
theorem sg_bd {x : Int} (h : 0 ≤ x ∧ x < 18446744073709551616) : i64P (sg x) := by unfold sg i64P; split <;> omega
theorem num8_i64 {q : List Int} (h : byt q) : i64P (num8 q) := sg_bd (pre8_bd h)
theorem num8_be (x : Int) (r : List Int) (h : i64P x) : num8 (be 8 x ++ r) = x := by
  unfold num8
  rw [pre_app _ _ _ (by rw [be_length]; exact Nat.le_refl _), ← be_wrap x, pre_be 8 _ (by omega) (by have : (256 : Int) ^ 8 = 18446744073709551616 := by decide
                                                                                                     omega)]
  unfold sg i64P at *
  split <;> omega
theorem be_num8 {q : List Int} (h : byt q) (hl : 8 ≤ q.length) : be 8 (num8 q) = q.take 8 := by
  unfold num8
  rw [← be_wrap, sg_mod (pre8_bd h), be_pre 8 q h hl]
/-- a key with what is told of it. -/
structure Cnt where
  key : List Int
  n : Int
  e : Int
def Cnt.ok (c : Cnt) : Prop := c.key.length ≤ 64 ∧ byt c.key ∧ i64P c.n ∧ i64P c.e
def Cnt.z (c : Cnt) : List Int := (c.key.length : Int) :: (c.key ++ (be 8 c.n ++ be 8 c.e))
def flat : List Cnt → List Int
  | [] => []
  | c :: l => c.z ++ flat l
theorem flat_app : ∀ l m, flat (l ++ m) = flat l ++ flat m
  | [], _ => rfl
  | c :: l, m => by rw [List.cons_append, flat, flat, flat_app l m, List.append_assoc]
theorem Cnt.z_length (c : Cnt) : c.z.length = 17 + c.key.length := by unfold Cnt.z; simp [be_length]; omega
theorem Cnt.z_byt {c : Cnt} (h : c.ok) : byt c.z := by
  obtain ⟨h1, h2, _, _⟩ := h
  intro z hz
  unfold Cnt.z at hz
  simp only [List.mem_cons, List.mem_append] at hz
  rcases hz with rfl | hz | hz | hz
  · omega
  · exact h2 z hz
  · exact be_byt _ _ z hz
  · exact be_byt _ _ z hz
def oks (l : List Cnt) : Prop := ∀ c ∈ l, c.ok
theorem flat_byt : ∀ {l : List Cnt}, oks l → byt (flat l)
  | [], _ => by intro z hz; cases hz
  | c :: l, h => byt_app (Cnt.z_byt (h c (by simp))) (flat_byt (fun x hx => h x (by simp [hx])))
theorem flat_len : ∀ {l : List Cnt}, oks l → (flat l).length ≤ 81 * l.length
  | [], _ => by simp [flat]
  | c :: l, h => by
    have h1 := flat_len (l := l) (fun x hx => h x (by simp [hx]))
    have h2 := (h c (by simp)).1
    rw [flat, List.length_append, Cnt.z_length, List.length_cons]
    omega
def sumL : List Cnt → Nat
  | [] => 0
  | c :: l => 17 + c.key.length + sumL l
theorem flat_sum : ∀ l, (flat l).length = sumL l
  | [] => rfl
  | c :: l => by rw [flat, List.length_append, Cnt.z_length, flat_sum l, sumL]
/-- n keys, that are all of these bytes. -/
def lstZ : Nat → List Int → Option (List Cnt)
  | 0, b => if b = [] then some [] else none
  | n + 1, b =>
    if b.length < 17 ∨ 64 < b.getD 0 0 ∨ b.length < 17 + (b.getD 0 0).toNat then none
    else match lstZ n (b.drop (17 + (b.getD 0 0).toNat)) with
      | none => none
      | some l => some (⟨(b.drop 1).take (b.getD 0 0).toNat, num8 (b.drop (1 + (b.getD 0 0).toNat)), num8 (b.drop (9 + (b.getD 0 0).toNat))⟩ :: l)
theorem lst_flat : ∀ (l : List Cnt), oks l → lstZ l.length (flat l) = some l
  | [], _ => rfl
  | c :: l, h => by
    obtain ⟨h1, h2, h3, h4⟩ := h c (by simp)
    have hr := lst_flat l (fun x hx => h x (by simp [hx]))
    have hk : (flat (c :: l)).getD 0 0 = (c.key.length : Int) := rfl
    have hl : (flat (c :: l)).length = 17 + c.key.length + (flat l).length := by rw [flat, List.length_append, Cnt.z_length]
    have e1 : flat (c :: l) = (c.key.length : Int) :: (c.key ++ (be 8 c.n ++ (be 8 c.e ++ flat l))) := by rw [flat]; unfold Cnt.z; simp
    have e2 : (flat (c :: l)).drop 1 = c.key ++ (be 8 c.n ++ (be 8 c.e ++ flat l)) := by rw [e1]; rfl
    have e3 : (flat (c :: l)).drop (1 + c.key.length) = be 8 c.n ++ (be 8 c.e ++ flat l) := by rw [← List.drop_drop, e2, List.drop_left' rfl]
    have e4 : (flat (c :: l)).drop (9 + c.key.length) = be 8 c.e ++ flat l := by
      rw [show 9 + c.key.length = (1 + c.key.length) + 8 by omega, ← List.drop_drop, e3, List.drop_left' (be_length 8 _)]
    have e5 : (flat (c :: l)).drop (17 + c.key.length) = flat l := by
      rw [show 17 + c.key.length = (9 + c.key.length) + 8 by omega, ← List.drop_drop, e4, List.drop_left' (be_length 8 _)]
    rw [List.length_cons, lstZ, hk, hl, if_neg (by omega), Int.toNat_natCast, e5, hr]
    simp only
    rw [e2, e3, e4, List.take_left' rfl, num8_be _ _ h3, num8_be _ _ h4]
theorem flat_lst : ∀ (n : Nat) (b : List Int) (l : List Cnt), byt b → lstZ n b = some l → flat l = b ∧ l.length = n ∧ oks l
  | 0, b, l, hb, h => by
    rw [lstZ] at h
    split at h
    · rename_i h0; injection h with h; subst h; subst h0; exact ⟨rfl, rfl, fun c hc => by cases hc⟩
    · cases h
  | n + 1, b, l, hb, h => by
    rw [lstZ] at h
    split at h
    · cases h
    · rename_i hc
      obtain ⟨k, hk⟩ : ∃ k : Nat, b.getD 0 0 = (k : Int) := ⟨(b.getD 0 0).toNat, by have := byt_getD hb 0; omega⟩
      rw [hk] at h hc
      simp only [Int.toNat_natCast] at h hc
      cases hr : lstZ n (b.drop (17 + k)) with
      | none => rw [hr] at h; cases h
      | some l' =>
        rw [hr] at h
        simp only at h
        injection h with h
        obtain ⟨i1, i2, i3⟩ := flat_lst n _ l' (byt_drop hb _) hr
        subst h
        have hlk : ((b.drop 1).take k).length = k := by rw [List.length_take, List.length_drop]; omega
        refine ⟨?_, by rw [List.length_cons, i2], ?_⟩
        · rw [flat, i1]
          unfold Cnt.z
          simp only
          rw [hlk, be_num8 (byt_drop hb _) (by rw [List.length_drop]; omega), be_num8 (byt_drop hb _) (by rw [List.length_drop]; omega)]
          have hne : b ≠ [] := by intro e; rw [e] at hc; simp at hc
          obtain ⟨x, r, rfl⟩ := List.exists_cons_of_ne_nil hne
          have hx : x = (k : Int) := hk
          subst hx
          simp only [List.cons_append, List.append_assoc]
          have e1 : ((k : Int) :: r).drop (1 + k) = r.drop k := by rw [Nat.add_comm, List.drop_succ_cons]
          have e2 : ((k : Int) :: r).drop (9 + k) = (r.drop k).drop 8 := by rw [List.drop_drop, show 9 + k = (k + 8) + 1 by omega, List.drop_succ_cons]
          have e3 : ((k : Int) :: r).drop (17 + k) = ((r.drop k).drop 8).drop 8 := by rw [List.drop_drop, List.drop_drop, show 17 + k = (k + 8 + 8) + 1 by omega, List.drop_succ_cons]
          rw [e1, e2, e3, List.take_append_drop, List.take_append_drop, show ((k : Int) :: r).drop 1 = r from rfl, List.take_append_drop]
        · intro c hcm
          rcases List.mem_cons.1 hcm with rfl | hcm
          · exact ⟨by show _ ≤ 64; rw [hlk]; omega, byt_take (byt_drop hb _) _, num8_i64 (byt_drop hb _), num8_i64 (byt_drop hb _)⟩
          · exact i3 c hcm
/-- what an answer says. -/
structure Sd where
  op : Int
  rule : Int
  v : Int
  rem : Int
  ret : Int
  a : Int
  d : Int
  b : Int
  c : Int
  wt : Int
  list : List Cnt
  err : Int
def sd0 : Sd := ⟨0, 0, 0, 0, 0, 0, 0, 0, 0, 0, [], 0⟩
def ansS (op v rem ret : Int) : Sd := ⟨op, 0, v, rem, ret, 0, 0, 0, 0, 0, [], 0⟩
def totS (rule a d b c wt : Int) : Sd := ⟨3, rule, 0, 0, 0, a, d, b, c, wt, [], 0⟩
def topS (rule : Int) (l : List Cnt) : Sd := ⟨4, rule, 0, 0, 0, 0, 0, 0, 0, 0, l, 0⟩
def errS (e : Int) : Sd := ⟨127, 0, 0, 0, 0, 0, 0, 0, 0, 0, [], e⟩
def ansZ (op v rem ret : Int) : List Int := (128 + op) :: v :: (be 8 rem ++ be 8 ret)
def totZ (rule a d b c wt : Int) : List Int := 131 :: rule :: (be 8 a ++ (be 8 d ++ (be 8 b ++ (be 8 c ++ be 8 wt))))
def topZ (rule : Int) (l : List Cnt) : List Int := 132 :: rule :: (l.length : Int) :: flat l
def errZ (e : Int) : List Int := [255, e]
def sayZ (s : Sd) : List Int :=
  if s.op = 1 ∨ s.op = 2 then ansZ s.op s.v s.rem s.ret
  else if s.op = 3 then totZ s.rule s.a s.d s.b s.c s.wt
  else if s.op = 4 then topZ s.rule s.list
  else errZ s.err
def frmZ (b : List Int) : List Int := 168 :: 1 :: (be 2 (b.length : Int) ++ b)
def okS (s : Sd) : Prop :=
  ((s.op = 1 ∨ s.op = 2) ∧ (1 ≤ s.v ∧ s.v ≤ 3) ∧ i64P s.rem ∧ i64P s.ret ∧ s = ansS s.op s.v s.rem s.ret)
  ∨ ((0 ≤ s.rule ∧ s.rule ≤ 255) ∧ i64P s.a ∧ i64P s.d ∧ i64P s.b ∧ i64P s.c ∧ i64P s.wt ∧ s = totS s.rule s.a s.d s.b s.c s.wt)
  ∨ ((0 ≤ s.rule ∧ s.rule ≤ 255) ∧ s.list.length ≤ 255 ∧ oks s.list ∧ s = topS s.rule s.list)
  ∨ ((1 ≤ s.err ∧ s.err ≤ 255) ∧ s = errS s.err)
/-- what stands behind an answer's head. -/
def saidZ (b : List Int) : Option Sd :=
  if b.length < 2 ∨ b.getD 0 0 < 128 then none
  else if (b.getD 0 0 = 129 ∨ b.getD 0 0 = 130) ∧ b.length = 18 then
    if 1 ≤ b.getD 1 0 ∧ b.getD 1 0 ≤ 3 then some (ansS (b.getD 0 0 - 128) (b.getD 1 0) (num8 (b.drop 2)) (num8 (b.drop 10))) else none
  else if b.getD 0 0 = 131 ∧ b.length = 42 then some (totS (b.getD 1 0) (num8 (b.drop 2)) (num8 (b.drop 10)) (num8 (b.drop 18)) (num8 (b.drop 26)) (num8 (b.drop 34)))
  else if b.getD 0 0 = 132 ∧ 3 ≤ b.length then (lstZ (b.getD 2 0).toNat (b.drop 3)).map (topS (b.getD 1 0))
  else if b.getD 0 0 = 255 ∧ b.length = 2 then if b.getD 1 0 = 0 then none else some (errS (b.getD 1 0))
  else none
theorem drop_be (x : Int) (r : List Int) (n : Nat) : (be 8 x ++ r).drop (n + 8) = r.drop n := by
  rw [Nat.add_comm, ← List.drop_drop, List.drop_left' (be_length 8 _)]
theorem drop_be8 (x : Int) (r : List Int) : (be 8 x ++ r).drop 8 = r := by
  rw [List.drop_left' (be_length 8 _)]
theorem num8_be' (x : Int) (h : i64P x) : num8 (be 8 x) = x := by
  have := num8_be x [] h
  rwa [List.append_nil] at this
theorem said_ans {op v rem ret : Int} (ho : op = 1 ∨ op = 2) (hv : 1 ≤ v ∧ v ≤ 3) (h1 : i64P rem) (h2 : i64P ret) : saidZ (ansZ op v rem ret) = some (ansS op v rem ret) := by
  have e0 : (ansZ op v rem ret).getD 0 0 = 128 + op := rfl
  have e1 : (ansZ op v rem ret).getD 1 0 = v := rfl
  have el : (ansZ op v rem ret).length = 18 := by unfold ansZ; simp [be_length]
  have d2 : (ansZ op v rem ret).drop 2 = be 8 rem ++ be 8 ret := rfl
  have d10 : (ansZ op v rem ret).drop 10 = be 8 ret := by
    rw [show 10 = 2 + 8 from rfl, ← List.drop_drop, d2, drop_be8]
  unfold saidZ
  rw [e0, e1, el, d2, d10, if_neg (by omega), if_pos (by omega), if_pos hv, num8_be _ _ h1, num8_be' _ h2, show 128 + op - 128 = op by omega]
theorem said_tot {rule a d b c wt : Int} (h1 : i64P a) (h2 : i64P d) (h3 : i64P b) (h4 : i64P c) (h5 : i64P wt) : saidZ (totZ rule a d b c wt) = some (totS rule a d b c wt) := by
  have e0 : (totZ rule a d b c wt).getD 0 0 = 131 := rfl
  have e1 : (totZ rule a d b c wt).getD 1 0 = rule := rfl
  have el : (totZ rule a d b c wt).length = 42 := by unfold totZ; simp [be_length]
  have d2 : (totZ rule a d b c wt).drop 2 = (be 8 a ++ (be 8 d ++ (be 8 b ++ (be 8 c ++ be 8 wt)))) := rfl
  have d10 : (totZ rule a d b c wt).drop 10 = (be 8 d ++ (be 8 b ++ (be 8 c ++ be 8 wt))) := by
    rw [show 10 = 2 + 8 from rfl, ← List.drop_drop, d2, drop_be8]
  have d18 : (totZ rule a d b c wt).drop 18 = (be 8 b ++ (be 8 c ++ be 8 wt)) := by
    rw [show 18 = 10 + 8 from rfl, ← List.drop_drop, d10, drop_be8]
  have d26 : (totZ rule a d b c wt).drop 26 = (be 8 c ++ be 8 wt) := by
    rw [show 26 = 18 + 8 from rfl, ← List.drop_drop, d18, drop_be8]
  have d34 : (totZ rule a d b c wt).drop 34 = be 8 wt := by
    rw [show 34 = 26 + 8 from rfl, ← List.drop_drop, d26, drop_be8]
  unfold saidZ
  rw [e0, e1, el, d2, d10, d18, d26, d34, if_neg (by omega), if_neg (by omega), if_pos (by omega), num8_be _ _ h1, num8_be _ _ h2, num8_be _ _ h3, num8_be _ _ h4, num8_be' _ h5]
theorem said_top {rule : Int} {l : List Cnt} (hl : oks l) : saidZ (topZ rule l) = some (topS rule l) := by
  have e0 : (topZ rule l).getD 0 0 = 132 := rfl
  have e1 : (topZ rule l).getD 1 0 = rule := rfl
  have e2 : (topZ rule l).getD 2 0 = (l.length : Int) := rfl
  have el : (topZ rule l).length = 3 + (flat l).length := by unfold topZ; simp; omega
  have d3 : (topZ rule l).drop 3 = flat l := rfl
  unfold saidZ
  rw [e0, e1, e2, el, d3, if_neg (by omega), if_neg (by omega), if_neg (by omega), if_pos (by omega), Int.toNat_natCast, lst_flat l hl]
  rfl
theorem said_err {e : Int} (h : 1 ≤ e ∧ e ≤ 255) : saidZ (errZ e) = some (errS e) := by
  have e0 : (errZ e).getD 0 0 = 255 := rfl
  have e1 : (errZ e).getD 1 0 = e := rfl
  have el : (errZ e).length = 2 := rfl
  unfold saidZ
  rw [e0, e1, el, if_neg (by omega), if_neg (by omega), if_neg (by omega), if_neg (by omega), if_pos (by omega), if_neg (by omega)]
theorem say_ans {op v rem ret : Int} (h : op = 1 ∨ op = 2) : sayZ (ansS op v rem ret) = ansZ op v rem ret := by
  unfold sayZ ansS
  simp only
  rw [if_pos h]
theorem say_tot (rule a d b c wt : Int) : sayZ (totS rule a d b c wt) = totZ rule a d b c wt := by
  unfold sayZ totS
  simp
theorem say_top (rule : Int) (l : List Cnt) : sayZ (topS rule l) = topZ rule l := by
  unfold sayZ topS
  simp
theorem say_err (e : Int) : sayZ (errS e) = errZ e := by
  unfold sayZ errS
  simp
theorem list_two {b : List Int} (h : 2 ≤ b.length) : b = b.getD 0 0 :: b.getD 1 0 :: b.drop 2 := by
  obtain ⟨x, r, rfl⟩ := List.exists_cons_of_ne_nil (show b ≠ [] by rintro rfl; simp at h)
  obtain ⟨y, r, rfl⟩ := List.exists_cons_of_ne_nil (show r ≠ [] by rintro rfl; simp at h)
  rfl
theorem take8 {b : List Int} {k : Nat} : (b.drop k).take 8 ++ b.drop (k + 8) = b.drop k := by
  rw [← List.drop_drop]; exact List.take_append_drop 8 _
theorem drop_all8 {b : List Int} {k : Nat} (h : b.length = k + 8) : (b.drop k).take 8 = b.drop k := List.take_of_length_le (by rw [List.length_drop]; omega)
theorem say_said {b : List Int} {s : Sd} (hb : byt b) (h : saidZ b = some s) : sayZ s = b ∧ okS s := by
  unfold saidZ at h
  have g0 := byt_getD hb 0
  have g1 := byt_getD hb 1
  have g2 := byt_getD hb 2
  split at h
  · cases h
  rename_i c1
  have l2 : 2 ≤ b.length := by omega
  split at h
  · rename_i c2
    split at h
    · rename_i c3
      injection h with h; subst h
      have hn := num8_i64 (byt_drop hb 2)
      have hm := num8_i64 (byt_drop hb 10)
      refine ⟨?_, .inl ⟨by show _ - 128 = 1 ∨ _ - 128 = 2; omega, c3, hn, hm, rfl⟩⟩
      rw [say_ans (by omega)]
      show (128 + (b.getD 0 0 - 128)) :: b.getD 1 0 :: (be 8 (num8 (b.drop 2)) ++ be 8 (num8 (b.drop 10))) = b
      rw [be_num8 (byt_drop hb _) (by rw [List.length_drop]; omega), be_num8 (byt_drop hb _) (by rw [List.length_drop]; omega), drop_all8 (k := 10) (by omega), take8 (k := 2), show 128 + (b.getD 0 0 - 128) = b.getD 0 0 by omega]
      exact (list_two l2).symm
    · cases h
  split at h
  · rename_i c2
    injection h with h; subst h
    refine ⟨?_, .inr (.inl ⟨g1, num8_i64 (byt_drop hb _), num8_i64 (byt_drop hb _), num8_i64 (byt_drop hb _), num8_i64 (byt_drop hb _), num8_i64 (byt_drop hb _), rfl⟩)⟩
    rw [say_tot]
    show 131 :: b.getD 1 0 :: (be 8 (num8 (b.drop 2)) ++ (be 8 (num8 (b.drop 10)) ++ (be 8 (num8 (b.drop 18)) ++ (be 8 (num8 (b.drop 26)) ++ be 8 (num8 (b.drop 34)))))) = b
    rw [be_num8 (byt_drop hb 2) (by rw [List.length_drop]; omega), be_num8 (byt_drop hb 10) (by rw [List.length_drop]; omega), be_num8 (byt_drop hb 18) (by rw [List.length_drop]; omega), be_num8 (byt_drop hb 26) (by rw [List.length_drop]; omega), be_num8 (byt_drop hb 34) (by rw [List.length_drop]; omega),
      drop_all8 (k := 34) (by omega), take8 (k := 26), take8 (k := 18), take8 (k := 10), take8 (k := 2), ← c2.1]
    exact (list_two l2).symm
  split at h
  · rename_i c2
    cases hr : lstZ (b.getD 2 0).toNat (b.drop 3) with
    | none => rw [hr] at h; cases h
    | some l =>
      rw [hr] at h
      injection h with h; subst h
      obtain ⟨i1, i2, i3⟩ := flat_lst _ _ _ (byt_drop hb 3) hr
      refine ⟨?_, .inr (.inr (.inl ⟨g1, by show l.length ≤ 255; omega, i3, rfl⟩))⟩
      rw [say_top]
      show 132 :: b.getD 1 0 :: (l.length : Int) :: flat l = b
      rw [i1, i2, show (((b.getD 2 0).toNat : Nat) : Int) = b.getD 2 0 by omega, ← c2.1]
      obtain ⟨x, r, rfl⟩ := List.exists_cons_of_ne_nil (show b ≠ [] by rintro rfl; simp at l2)
      obtain ⟨y, r, rfl⟩ := List.exists_cons_of_ne_nil (show r ≠ [] by rintro rfl; simp at l2)
      obtain ⟨z, r, rfl⟩ := List.exists_cons_of_ne_nil (show r ≠ [] by rintro rfl; simp at c2)
      rfl
  split at h
  · rename_i c2
    split at h
    · cases h
    · rename_i c3
      injection h with h; subst h
      refine ⟨?_, .inr (.inr (.inr ⟨by show 1 ≤ b.getD 1 0 ∧ b.getD 1 0 ≤ 255; omega, rfl⟩))⟩
      rw [say_err]
      show [255, b.getD 1 0] = b
      have e : b.drop 2 = [] := List.drop_eq_nil_of_le (by omega)
      have := list_two l2
      rw [e, c2.1] at this
      exact this.symm
  · cases h
/-- the answer that bytes begin with. -/
def readZ (z : List Int) : Option (Sd × Nat) :=
  if z.length < 4 ∨ z.getD 0 0 ≠ 168 ∨ z.getD 1 0 ≠ 1 then none
  else if z.length < 4 + (z.getD 2 0 * 256 + z.getD 3 0).toNat then none
  else (saidZ ((z.drop 4).take (z.getD 2 0 * 256 + z.getD 3 0).toNat)).map fun s => (s, 4 + (z.getD 2 0 * 256 + z.getD 3 0).toNat)
theorem frm_length (b : List Int) : (frmZ b).length = 4 + b.length := by unfold frmZ; simp [be_length]; omega
theorem be_two (x : Int) : be 2 x = [x / 256 % 256, x % 256] := by simp [be]
theorem read_frm {b : List Int} {s : Sd} (h : saidZ b = some s) (hl : b.length < 65536) (more : List Int) : readZ (frmZ b ++ more) = some (s, 4 + b.length) := by
  have e0 : frmZ b ++ more = 168 :: 1 :: ((b.length : Int) / 256 % 256) :: ((b.length : Int) % 256) :: (b ++ more) := by unfold frmZ; rw [be_two]; simp
  rw [e0]
  unfold readZ
  have en : (((b.length : Int) / 256 % 256) * 256 + ((b.length : Int) % 256)).toNat = b.length := by omega
  simp only [List.getD_cons_zero, List.getD_cons_succ, List.length_cons, List.length_append, List.drop_succ_cons, List.drop_zero]
  rw [en, if_neg (by omega), if_neg (by omega), List.take_left' rfl, h]
  rfl
theorem four {z : List Int} (h : 4 ≤ z.length) : z = z.getD 0 0 :: z.getD 1 0 :: z.getD 2 0 :: z.getD 3 0 :: z.drop 4 := by
  obtain ⟨x, r, rfl⟩ := List.exists_cons_of_ne_nil (show z ≠ [] by rintro rfl; simp at h)
  obtain ⟨y, r, rfl⟩ := List.exists_cons_of_ne_nil (show r ≠ [] by rintro rfl; simp at h)
  obtain ⟨u, r, rfl⟩ := List.exists_cons_of_ne_nil (show r ≠ [] by rintro rfl; simp at h)
  obtain ⟨v, r, rfl⟩ := List.exists_cons_of_ne_nil (show r ≠ [] by rintro rfl; simp at h)
  rfl
theorem frm_read {z : List Int} {s : Sd} {n : Nat} (hb : byt z) (h : readZ z = some (s, n)) : frmZ (sayZ s) = z.take n ∧ n ≤ z.length ∧ okS s ∧ 6 ≤ n := by
  unfold readZ at h
  have g2 := byt_getD hb 2
  have g3 := byt_getD hb 3
  split at h
  · cases h
  rename_i c1
  split at h
  · cases h
  rename_i c2
  obtain ⟨m, hm⟩ : ∃ m : Nat, z.getD 2 0 * 256 + z.getD 3 0 = (m : Int) := ⟨(z.getD 2 0 * 256 + z.getD 3 0).toNat, by omega⟩
  rw [hm, Int.toNat_natCast] at h c2
  cases hs : saidZ ((z.drop 4).take m) with
  | none => rw [hs] at h; cases h
  | some s' =>
    rw [hs] at h
    simp only [Option.map_some, Option.some.injEq, Prod.mk.injEq] at h
    obtain ⟨rfl, rfl⟩ := h
    obtain ⟨i1, i2⟩ := say_said (byt_take (byt_drop hb 4) m) hs
    have hlm : ((z.drop 4).take m).length = m := by rw [List.length_take, List.length_drop]; omega
    have hm2 : 2 ≤ m := by
      have : ¬ (((z.drop 4).take m).length < 2) := by
        intro hlt
        unfold saidZ at hs
        rw [if_pos (.inl hlt)] at hs
        cases hs
      omega
    refine ⟨?_, by omega, i2, by omega⟩
    rw [i1]
    unfold frmZ
    rw [hlm, be_two]
    have e2 : (m : Int) / 256 % 256 = z.getD 2 0 := by omega
    have e3 : (m : Int) % 256 = z.getD 3 0 := by omega
    rw [e2, e3]
    have h4 := four (z := z) (by omega)
    obtain ⟨z0, hz0⟩ : ∃ x, x = z.getD 0 0 := ⟨_, rfl⟩
    obtain ⟨z1, hz1⟩ : ∃ x, x = z.getD 1 0 := ⟨_, rfl⟩
    have k0 : z.getD 0 0 = 168 := by omega
    have k1 : z.getD 1 0 = 1 := by omega
    rw [k0, k1] at h4
    conv => rhs; rw [h4]
    rw [show 4 + m = m + 1 + 1 + 1 + 1 by omega]
    simp only [List.take_succ_cons, List.cons_append, List.nil_append]
theorem say_length {s : Sd} (h : okS s) : (sayZ s).length ≤ 20658 := by
  rcases h with ⟨h, _, _, _, e⟩ | ⟨_, _, _, _, _, _, e⟩ | ⟨_, h1, h2, e⟩ | ⟨_, e⟩
  · rw [e, say_ans h]; unfold ansZ; simp [be_length]
  · rw [e, say_tot]; unfold totZ; simp [be_length]
  · rw [e, say_top]; unfold topZ
    have := flat_len h2
    simp
    omega
  · rw [e, say_err]; simp [errZ]
end Go.Proofs.Ytaghookljjpllaa
