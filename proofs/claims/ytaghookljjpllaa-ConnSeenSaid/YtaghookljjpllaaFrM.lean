/- Requests as bytes: plain mathematics. -/
namespace Go.Proofs.Ytaghookljjpllaa
set_option linter.unusedSimpArgs false
set_option linter.unusedVariables false
structure Req where
  op : Int
  rule : Int
  cost : Int
  key : List Int
  k : Int
def req0 : Req := ⟨0, 0, 0, [], 0⟩
def byt (q : List Int) : Prop := ∀ z ∈ q, 0 ≤ z ∧ z ≤ 255
theorem byt_getD {q : List Int} (h : byt q) (j : Nat) : 0 ≤ q.getD j 0 ∧ q.getD j 0 ≤ 255 := by
  by_cases hj : j < q.length
  · have := h _ (List.getElem_mem hj)
    simpa [List.getD, hj] using this
  · simp [List.getD, List.getElem?_eq_none (by omega : q.length ≤ j)]
/-- the number of the first bytes. -/
def preZ (q : List Int) : Nat → Int
  | 0 => 0
  | j + 1 => preZ q j * 256 + q.getD j 0
theorem pre_bd {q : List Int} (h : byt q) : ∀ j, 0 ≤ preZ q j ∧ preZ q j < 256 ^ j
  | 0 => by simp [preZ]
  | j + 1 => by
    have h1 := pre_bd h j
    have h2 := byt_getD h j
    rw [preZ, Int.pow_succ]
    omega
theorem byt_drop {q : List Int} (h : byt q) (n : Nat) : byt (q.drop n) := fun z hz => h z (List.mem_of_mem_drop hz)
theorem byt_take {q : List Int} (h : byt q) (n : Nat) : byt (q.take n) := fun z hz => h z (List.mem_of_mem_take hz)
theorem byt_app {q r : List Int} (h : byt q) (g : byt r) : byt (q ++ r) := fun z hz => (List.mem_append.1 hz).elim (h z) (g z)
/-- the n lowest bytes of a number, the highest first. -/
def be : Nat → Int → List Int
  | 0, _ => []
  | n + 1, x => be n (x / 256) ++ [x % 256]
theorem be_length : ∀ n x, (be n x).length = n
  | 0, _ => rfl
  | n + 1, x => by rw [be, List.length_append, be_length n]; rfl
theorem be_byt : ∀ n x, byt (be n x)
  | 0, _ => by intro z hz; cases hz
  | n + 1, x => byt_app (be_byt n _) (by intro z hz; simp at hz; omega)
theorem pre_app : ∀ (q r : List Int) (j : Nat), j ≤ q.length → preZ (q ++ r) j = preZ q j
  | _, _, 0, _ => rfl
  | q, r, j + 1, h => by
    rw [preZ, preZ, pre_app q r j (by omega)]
    congr 1
    simp [List.getD, List.getElem?_append_left (show j < q.length by omega)]
theorem pre_be : ∀ n x, 0 ≤ x → x < 256 ^ n → preZ (be n x) n = x
  | 0, x, h0, h1 => by simp at h1; simp [preZ]; omega
  | n + 1, x, h0, h1 => by
    have hl := be_length n (x / 256)
    rw [Int.pow_succ] at h1
    have := pre_be n (x / 256) (by omega) (by omega)
    rw [preZ, be, pre_app _ _ _ (by omega), this]
    simp [List.getD, hl]
    omega
/-- a number's bytes written down are the bytes it was read from. -/
theorem be_pre : ∀ (n : Nat) (q : List Int), byt q → n ≤ q.length → be n (preZ q n) = q.take n
  | 0, _, _, _ => by simp [be]
  | n + 1, q, h, hl => by
    have hb := byt_getD h n
    have e1 : (preZ q n * 256 + q.getD n 0) / 256 = preZ q n := by omega
    have e2 : (preZ q n * 256 + q.getD n 0) % 256 = q.getD n 0 := by omega
    rw [be, preZ, e1, e2, be_pre n q h (by omega), List.take_succ_eq_append_getElem (by omega)]
    congr 1
    simp [List.getD, show n < q.length by omega]
/-- may it be a request? -/
def rightP (q : Req) (rules : Int) : Prop :=
  (0 ≤ q.rule ∧ q.rule < rules ∧ q.rule ≤ 255) ∧
    (((q.op = 1 ∨ q.op = 2) ∧ q.key.length ≤ 64 ∧ q.k = 0) ∨ (q.op = 3 ∧ q.cost = 0 ∧ q.key = [] ∧ q.k = 0) ∨ (q.op = 4 ∧ q.cost = 0 ∧ q.key = [] ∧ 0 ≤ q.k ∧ q.k ≤ 255))
/-- its bytes. -/
def encZ (q : Req) : List Int :=
  if q.op < 3 then 167 :: 1 :: 0 :: (7 + (q.key.length : Int)) :: q.op :: q.rule :: (be 4 q.cost ++ (q.key.length : Int) :: q.key)
  else if q.op = 4 then [167, 1, 0, 3, 4, q.rule, q.k]
  else [167, 1, 0, 2, q.op, q.rule]
/-- the fault of byte i. -/
def fltZ (z : List Int) (rules : Int) (i : Nat) : Int :=
  let c := z.getD i 0
  let n := z.getD 3 0
  if i = 0 ∧ c ≠ 167 then 5
  else if i = 1 ∧ c ≠ 1 then 6
  else if (i = 2 ∧ c ≠ 0) ∨ (i = 3 ∧ (c < 2 ∨ (c > 3 ∧ c < 7) ∨ c > 71)) then 7
  else if i = 4 ∧ ¬ ((c = 3 ∧ n = 2) ∨ (c = 4 ∧ n = 3) ∨ ((c = 1 ∨ c = 2) ∧ n ≥ 7)) then 8
  else if i = 5 ∧ c ≥ rules then 9
  else if i = 10 ∧ c ≠ n - 7 then 10
  else 0
/-- what the bytes of a whole request say. -/
def reqZ (z : List Int) : Req :=
  let n := z.getD 3 0
  if n ≥ 7 then ⟨z.getD 4 0, z.getD 5 0, preZ (z.drop 6) 4, (z.take (4 + n.toNat)).drop 11, 0⟩
  else if n = 3 then ⟨z.getD 4 0, z.getD 5 0, 0, [], z.getD 6 0⟩
  else ⟨z.getD 4 0, z.getD 5 0, 0, [], 0⟩
def wholeAt (z : List Int) (i : Nat) : Prop := 3 ≤ i ∧ (i : Int) + 1 = 4 + z.getD 3 0
instance (z : List Int) (i : Nat) : Decidable (wholeAt z i) := inferInstanceAs (Decidable (_ ∧ _))
def scanZ (z : List Int) (rules : Int) : Nat → Nat → Req × Int × Int
  | 0, _ => (req0, 0, 0)
  | f + 1, i => if fltZ z rules i ≠ 0 then (req0, 0, fltZ z rules i) else if wholeAt z i then (reqZ z, (i : Int) + 1, 0) else scanZ z rules f (i + 1)
/-- the request that bytes begin with. -/
def parseZ (z : List Int) (rules : Int) : Req × Int × Int := scanZ z rules z.length 0
theorem scan_step {z : List Int} {rules : Int} {i : Nat} (h : i < z.length) : scanZ z rules (z.length - i) i =
    if fltZ z rules i ≠ 0 then (req0, 0, fltZ z rules i) else if wholeAt z i then (reqZ z, (i : Int) + 1, 0) else scanZ z rules (z.length - (i + 1)) (i + 1) := by
  rw [show z.length - i = (z.length - (i + 1)) + 1 by omega, scanZ]
/-- all bytes ahead of j neither have a fault nor end a request. -/
def cleanZ (z : List Int) (rules : Int) (j : Nat) : Prop := ∀ i < j, fltZ z rules i = 0 ∧ ¬ wholeAt z i
theorem scan_clean {z : List Int} {rules : Int} : ∀ (k : Nat) (j : Nat), j + k ≤ z.length → (∀ i, j ≤ i → i < j + k → fltZ z rules i = 0 ∧ ¬ wholeAt z i) → scanZ z rules (z.length - j) j = scanZ z rules (z.length - (j + k)) (j + k)
  | 0, _, _, _ => rfl
  | k + 1, j, h, hc => by
    have h0 := hc j (Nat.le_refl _) (by omega)
    rw [scan_step (by omega), if_neg (by simp [h0.1]), if_neg h0.2, scan_clean k (j + 1) (by omega) (fun i a b => hc i (by omega) (by omega))]
    congr 1 <;> omega
theorem parse_clean {z : List Int} {rules : Int} (j : Nat) (h : j ≤ z.length) (hc : cleanZ z rules j) : parseZ z rules = scanZ z rules (z.length - j) j := by
  have := scan_clean (z := z) (rules := rules) j 0 (by omega) (fun i _ b => hc i (by omega))
  simpa [parseZ] using this
theorem parse_all {z : List Int} {rules : Int} (hc : cleanZ z rules z.length) : parseZ z rules = (req0, 0, 0) := by
  rw [parse_clean z.length (Nat.le_refl _) hc, Nat.sub_self, scanZ]
theorem parse_whole {z : List Int} {rules : Int} (i : Nat) (h : i < z.length) (hc : cleanZ z rules i) (hf : fltZ z rules i = 0) (hw : wholeAt z i) : parseZ z rules = (reqZ z, (i : Int) + 1, 0) := by
  rw [parse_clean i (by omega) hc, scan_step h, if_neg (by simp [hf]), if_pos hw]
theorem parse_fault {z : List Int} {rules : Int} (i : Nat) (h : i < z.length) (hc : cleanZ z rules i) (hf : fltZ z rules i ≠ 0) : parseZ z rules = (req0, 0, fltZ z rules i) := by
  rw [parse_clean i (by omega) hc, scan_step h, if_pos hf]
/-- what bytes of the same beginning have the same of. -/
theorem flt_same {z y : List Int} {rules : Int} {i : Nat} (h : z.getD i 0 = y.getD i 0) (h3 : 3 < i → z.getD 3 0 = y.getD 3 0) : fltZ z rules i = fltZ y rules i := by
  unfold fltZ
  rw [h]
  by_cases hi : 3 < i
  · rw [h3 hi]
  · have a : ¬ i = 4 := by omega
    have b : ¬ i = 10 := by omega
    simp only [a, b, false_and, if_false]
theorem whole_same {z y : List Int} {i : Nat} (h3 : 3 ≤ i → z.getD 3 0 = y.getD 3 0) : wholeAt z i ↔ wholeAt y i := by
  unfold wholeAt
  by_cases hi : 3 ≤ i
  · rw [h3 hi]
  · simp [hi]
theorem clean_same {z y : List Int} {rules : Int} {j : Nat} (h : ∀ i < j, z.getD i 0 = y.getD i 0) (hc : cleanZ z rules j) : cleanZ y rules j := fun i hi => by
  have := hc i hi
  rw [← flt_same (h i hi) (fun h3 => h 3 (by omega)), ← whole_same (fun h3 => h 3 (by omega))]
  exact this
theorem getD_take {z : List Int} {i k : Nat} (h : i < k) : (z.take k).getD i 0 = z.getD i 0 := by
  simp [List.getD, h]
theorem getD_app {z y : List Int} {i : Nat} (h : i < z.length) : (z ++ y).getD i 0 = z.getD i 0 := by
  simp [List.getD, List.getElem?_append_left h]
theorem getD_drop {z : List Int} {i k : Nat} : (z.drop k).getD i 0 = z.getD (k + i) 0 := by
  simp [List.getD]
theorem enc_length {q : Req} {rules : Int} (_h : rightP q rules) : (encZ q).length = if q.op < 3 then 11 + q.key.length else if q.op = 4 then 7 else 6 := by
  unfold encZ
  split
  · simp [be_length]; omega
  · split <;> rfl
theorem enc_ok {q : Req} {rules : Int} (_hr : rules ≤ 256) (h : rightP q rules) (i : Nat) (hi : i < (encZ q).length) : fltZ (encZ q) rules i = 0 ∧ (wholeAt (encZ q) i ↔ i + 1 = (encZ q).length) := by
  have hl := enc_length h
  obtain ⟨⟨h1, h2, h3⟩, h4⟩ := h
  rcases h4 with ⟨ho, hk, h0⟩ | ⟨ho, hc, hk, h0⟩ | ⟨ho, hc, hk, h0⟩
  · have hop : q.op < 3 := by omega
    rw [if_pos hop] at hl
    have e : encZ q = 167 :: 1 :: 0 :: (7 + (q.key.length : Int)) :: q.op :: q.rule :: (be 4 q.cost ++ (q.key.length : Int) :: q.key) := by unfold encZ; rw [if_pos hop]
    have g3 : (encZ q).getD 3 0 = 7 + (q.key.length : Int) := by rw [e]; rfl
    have bl := be_length 4 q.cost
    refine ⟨?_, by unfold wholeAt; rw [g3]; omega⟩
    have g10 : (encZ q).getD 10 0 = q.key.length := by
      rw [e]
      simp [List.getD, bl]
    match i, hi with
    | 0, _ => unfold fltZ; rw [g3, e]; simp
    | 1, _ => unfold fltZ; rw [g3, e]; simp
    | 2, _ => unfold fltZ; rw [g3, e]; simp
    | 3, _ => unfold fltZ; rw [g3]; simp; omega
    | 4, _ => unfold fltZ; rw [g3, e]; simp; omega
    | 5, _ => unfold fltZ; rw [g3, e]; simp; omega
    | 6, _ => unfold fltZ; simp
    | 7, _ => unfold fltZ; simp
    | 8, _ => unfold fltZ; simp
    | 9, _ => unfold fltZ; simp
    | 10, _ => unfold fltZ; rw [g3, g10]; simp; omega
    | i + 11, _ => unfold fltZ; simp
  · have e : encZ q = [167, 1, 0, 2, q.op, q.rule] := by unfold encZ; rw [if_neg (by omega), if_neg (by omega)]
    rw [e] at hi ⊢
    refine ⟨?_, by unfold wholeAt; simp; omega⟩
    match i, hi with
    | 0, _ => simp [fltZ]
    | 1, _ => simp [fltZ]
    | 2, _ => simp [fltZ]
    | 3, _ => simp [fltZ]
    | 4, _ => simp [fltZ]; omega
    | 5, _ => simp [fltZ]; omega
  · have e : encZ q = [167, 1, 0, 3, 4, q.rule, q.k] := by unfold encZ; rw [if_neg (by omega), if_pos ho]
    rw [e] at hi ⊢
    refine ⟨?_, by unfold wholeAt; simp; omega⟩
    match i, hi with
    | 0, _ => simp [fltZ]
    | 1, _ => simp [fltZ]
    | 2, _ => simp [fltZ]
    | 3, _ => simp [fltZ]
    | 4, _ => simp [fltZ]
    | 5, _ => simp [fltZ]; omega
    | 6, _ => simp [fltZ]
theorem enc_clean {q : Req} {rules : Int} (hr : rules ≤ 256) (h : rightP q rules) (j : Nat) (hj : j < (encZ q).length) : cleanZ (encZ q) rules j := fun i hi => by
  have := enc_ok hr h i (by omega)
  exact ⟨this.1, fun g => by have := this.2.1 g; omega⟩
theorem enc_six {q : Req} {rules : Int} (h : rightP q rules) : 6 ≤ (encZ q).length := by
  rw [enc_length h]; split <;> (try split) <;> omega
/-- a request that may be, as it was read. -/
theorem req_enc {q : Req} {rules : Int} (h : rightP q rules) (hc : 0 ≤ q.cost ∧ q.cost < 4294967296) (more : List Int) : reqZ (encZ q ++ more) = q := by
  have h6 := enc_six h
  have g3 : (encZ q ++ more).getD 3 0 = (encZ q).getD 3 0 := getD_app (by omega)
  have g4 : (encZ q ++ more).getD 4 0 = (encZ q).getD 4 0 := getD_app (by omega)
  have g5 : (encZ q ++ more).getD 5 0 = (encZ q).getD 5 0 := getD_app (by omega)
  have hl := enc_length h
  obtain ⟨⟨h1, h2, h3⟩, h4⟩ := h
  obtain ⟨op, rule, cost, key, k⟩ := q
  simp only at *
  rcases h4 with ⟨ho, hk, h0⟩ | ⟨ho, hcc, hk, h0⟩ | ⟨ho, hcc, hk, h0⟩
  · have hop : op < 3 := by omega
    subst h0
    rw [if_pos hop] at hl
    have e : encZ ⟨op, rule, cost, key, 0⟩ = 167 :: 1 :: 0 :: (7 + (key.length : Int)) :: op :: rule :: (be 4 cost ++ (key.length : Int) :: key) := by unfold encZ; rw [if_pos hop]
    have b3 : (encZ ⟨op, rule, cost, key, 0⟩).getD 3 0 = 7 + (key.length : Int) := by rw [e]; rfl
    have b4 : (encZ ⟨op, rule, cost, key, 0⟩).getD 4 0 = op := by rw [e]; rfl
    have b5 : (encZ ⟨op, rule, cost, key, 0⟩).getD 5 0 = rule := by rw [e]; rfl
    have bl := be_length 4 cost
    have p4 : preZ ((encZ ⟨op, rule, cost, key, 0⟩ ++ more).drop 6) 4 = cost := by
      rw [e]
      simp only [List.cons_append, List.append_assoc, List.drop_succ_cons, List.drop_zero]
      rw [pre_app _ _ _ (by omega), pre_be 4 cost hc.1 (by simpa using hc.2)]
    have t : ((encZ ⟨op, rule, cost, key, 0⟩ ++ more).take (4 + (7 + (key.length : Int)).toNat)).drop 11 = key := by
      have e4 : 4 + (7 + (key.length : Int)).toNat = (encZ ⟨op, rule, cost, key, 0⟩).length := by omega
      rw [e4, List.take_left]
      rw [e]
      simp only [List.drop_succ_cons]
      rw [show (5 : Nat) = (be 4 cost).length + 1 by omega, List.drop_append]
      simp
    unfold reqZ
    simp only
    rw [g3, g4, g5, b3, b4, b5, if_pos (by omega), p4, t]
  · subst hk hcc h0 ho
    have e : encZ ⟨3, rule, 0, [], 0⟩ = [167, 1, 0, 2, 3, rule] := rfl
    unfold reqZ
    rw [g3, g4, g5, e]
    simp
  · subst hk hcc ho
    have e : encZ ⟨4, rule, 0, [], k⟩ = [167, 1, 0, 3, 4, rule, k] := rfl
    unfold reqZ
    rw [g3, g4, g5, e]
    simp
theorem parse_enc {q : Req} {rules : Int} (hr : rules ≤ 256) (h : rightP q rules) (hc : 0 ≤ q.cost ∧ q.cost < 4294967296) (more : List Int) : parseZ (encZ q ++ more) rules = (q, ((encZ q).length : Int), 0) := by
  have h6 := enc_six h
  have hs : ∀ i, i < (encZ q).length → (encZ q ++ more).getD i 0 = (encZ q).getD i 0 := fun i hi => getD_app hi
  have hk := enc_ok hr h ((encZ q).length - 1) (by omega)
  rw [parse_whole ((encZ q).length - 1) (by rw [List.length_append]; omega) (clean_same (fun i hi => (hs i (by omega)).symm) (enc_clean hr h _ (by omega)))
    (by rw [flt_same (hs _ (by omega)) (fun _ => hs 3 (by omega))]; exact hk.1) ((whole_same (fun _ => hs 3 (by omega))).2 (hk.2.2 (by omega))), req_enc h hc]
  simp only [Prod.mk.injEq, and_true, true_and]
  omega
theorem parse_part {q : Req} {rules : Int} (hr : rules ≤ 256) (h : rightP q rules) (i : Nat) (hi : i < (encZ q).length) : parseZ ((encZ q).take i) rules = (req0, 0, 0) := by
  refine parse_all ?_
  have hl : ((encZ q).take i).length = i := by rw [List.length_take]; omega
  rw [hl]
  exact clean_same (fun k hk => (getD_take hk).symm) (enc_clean hr h i hi)
theorem eq_of_getD {x y : List Int} (hl : x.length = y.length) (h : ∀ i, i < x.length → x.getD i 0 = y.getD i 0) : x = y := by
  apply List.ext_getElem hl
  intro i h1 h2
  have := h i h1
  simpa [List.getD, h1, h2] using this
theorem scan_found {z : List Int} {rules : Int} : ∀ (f i : Nat) (q : Req) (n e : Int), scanZ z rules f i = (q, n, e) → n ≠ 0 → ∃ j, i ≤ j ∧ j < i + f ∧ (∀ t, i ≤ t → t < j → fltZ z rules t = 0 ∧ ¬ wholeAt z t) ∧ fltZ z rules j = 0 ∧ wholeAt z j ∧ q = reqZ z ∧ n = (j : Int) + 1 ∧ e = 0
  | 0, i, q, n, e, h, hn => by
    simp only [scanZ, Prod.mk.injEq] at h
    exact absurd h.2.1.symm hn
  | f + 1, i, q, n, e, h, hn => by
    rw [scanZ] at h
    by_cases h1 : fltZ z rules i ≠ 0
    · rw [if_pos h1] at h
      simp only [Prod.mk.injEq] at h
      exact absurd h.2.1.symm hn
    · rw [if_neg h1] at h
      have h1' : fltZ z rules i = 0 := by simpa using h1
      by_cases h2 : wholeAt z i
      · rw [if_pos h2] at h
        simp only [Prod.mk.injEq] at h
        exact ⟨i, Nat.le_refl _, by omega, fun t a b => absurd b (by omega), h1', h2, h.1.symm, h.2.1.symm, h.2.2.symm⟩
      · rw [if_neg h2] at h
        obtain ⟨j, a, b, c, d⟩ := scan_found f (i + 1) q n e h hn
        refine ⟨j, by omega, by omega, fun t ht1 ht2 => ?_, d⟩
        rcases Nat.eq_or_lt_of_le ht1 with rfl | g
        · exact ⟨h1', h2⟩
        · exact c t g ht2
theorem parse_found {z : List Int} {rules : Int} {q : Req} {n e : Int} (h : parseZ z rules = (q, n, e)) (hn : n ≠ 0) : ∃ j, j < z.length ∧ cleanZ z rules j ∧ fltZ z rules j = 0 ∧ wholeAt z j ∧ q = reqZ z ∧ n = (j : Int) + 1 ∧ e = 0 := by
  obtain ⟨j, _, b, c, d⟩ := scan_found _ _ _ _ _ h hn
  exact ⟨j, by omega, fun t ht => c t (Nat.zero_le _) ht, d⟩
/-- what a byte without a fault is. -/
theorem flt0 {z : List Int} {rules : Int} {i : Nat} (h : fltZ z rules i = 0) : (i = 0 → z.getD 0 0 = 167) ∧ (i = 1 → z.getD 1 0 = 1) ∧ (i = 2 → z.getD 2 0 = 0) ∧
    (i = 3 → z.getD 3 0 = 2 ∨ z.getD 3 0 = 3 ∨ (7 ≤ z.getD 3 0 ∧ z.getD 3 0 ≤ 71)) ∧ (i = 4 → (z.getD 4 0 = 3 ∧ z.getD 3 0 = 2) ∨ (z.getD 4 0 = 4 ∧ z.getD 3 0 = 3) ∨ ((z.getD 4 0 = 1 ∨ z.getD 4 0 = 2) ∧ 7 ≤ z.getD 3 0)) ∧
    (i = 5 → z.getD 5 0 < rules) ∧ (i = 10 → z.getD 10 0 = z.getD 3 0 - 7) := by
  unfold fltZ at h
  simp only at h
  split at h
  · omega
  split at h
  · omega
  split at h
  · omega
  split at h
  · omega
  split at h
  · omega
  split at h
  · omega
  refine ⟨?_, ?_, ?_, ?_, ?_, ?_, ?_⟩ <;> intro hi <;> subst hi <;> omega
theorem cons_of_getD : ∀ (z : List Int), 0 < z.length → z = z.getD 0 0 :: z.drop 1
  | x :: r, _ => by simp
theorem drop_of_getD {z : List Int} {i : Nat} (h : i < z.length) : z.drop i = z.getD i 0 :: z.drop (i + 1) := by
  have := List.drop_eq_getElem_cons h
  rw [this]
  simp [List.getD, h]
/-- a whole request, of which sort it is. -/
theorem whole_ways {z : List Int} {rules : Int} {j : Nat} (hj : j < z.length) (hc : cleanZ z rules j) (hf : fltZ z rules j = 0) (hw : wholeAt z j) :
    6 ≤ z.length ∧ ((z.getD 4 0 = 3 ∧ z.getD 3 0 = 2) ∨ (z.getD 4 0 = 4 ∧ z.getD 3 0 = 3 ∧ 7 ≤ z.length) ∨ ((z.getD 4 0 = 1 ∨ z.getD 4 0 = 2) ∧ 7 ≤ z.getD 3 0 ∧ z.getD 10 0 = z.getD 3 0 - 7 ∧ 4 + z.getD 3 0 ≤ (z.length : Int))) := by
  obtain ⟨h3, hw1⟩ := hw
  have hall : ∀ i, i ≤ j → fltZ z rules i = 0 := fun i hi => by
    rcases Nat.eq_or_lt_of_le hi with rfl | g
    · exact hf
    · exact (hc i g).1
  have f3 := (flt0 (hall 3 h3)).2.2.2.1 rfl
  have hj5 : 5 ≤ j := by omega
  have f4 := (flt0 (hall 4 (by omega))).2.2.2.2.1 rfl
  refine ⟨by omega, ?_⟩
  rcases f4 with h | h | h
  · exact .inl h
  · exact .inr (.inl ⟨h.1, h.2, by omega⟩)
  · have f10 := (flt0 (hall 10 (by omega))).2.2.2.2.2.2 rfl
    exact .inr (.inr ⟨h.1, h.2, f10, by omega⟩)
theorem take_app_len (a : List Int) (x : Int) (b : List Int) (m k : Nat) (hk : k = a.length + (m + 1)) : (a ++ x :: b).take k = a ++ x :: b.take m := by
  subst hk
  rw [List.take_append, List.take_of_length_le (by omega), Nat.add_sub_cancel_left, List.take_succ_cons]
/-- whole requests are their own bytes. -/
theorem enc_parse {z : List Int} {rules : Int} {q : Req} {n e : Int} (hz : byt z) (h : parseZ z rules = (q, n, e)) (hn : n ≠ 0) : e = 0 ∧ 6 ≤ n ∧ n ≤ z.length ∧ rightP q rules ∧ encZ q = z.take n.toNat ∧ 0 ≤ q.cost ∧ q.cost < 4294967296 := by
  obtain ⟨j, hj, hc, hf, hw, rfl, rfl, rfl⟩ := parse_found h hn
  have hw' := hw
  obtain ⟨h3, hw1⟩ := hw'
  have hall : ∀ i, i ≤ j → fltZ z rules i = 0 := fun i hi => by
    rcases Nat.eq_or_lt_of_le hi with rfl | g
    · exact hf
    · exact (hc i g).1
  have f0 := (flt0 (hall 0 (by omega))).1 rfl
  have f1 := (flt0 (hall 1 (by omega))).2.1 rfl
  have f2 := (flt0 (hall 2 (by omega))).2.2.1 rfl
  have f3 := (flt0 (hall 3 h3)).2.2.2.1 rfl
  have hj5 : 5 ≤ j := by omega
  have f4 := (flt0 (hall 4 (by omega))).2.2.2.2.1 rfl
  have f5 := (flt0 (hall 5 (by omega))).2.2.2.2.2.1 rfl
  have b5 := byt_getD hz 5
  have hn' : ((j : Int) + 1).toNat = j + 1 := by omega
  rw [hn']
  have z0 : z = 167 :: 1 :: 0 :: z.getD 3 0 :: z.getD 4 0 :: z.getD 5 0 :: z.drop 6 := by
    have e0 := drop_of_getD (z := z) (i := 0) (by omega)
    have e1 := drop_of_getD (z := z) (i := 1) (by omega)
    have e2 := drop_of_getD (z := z) (i := 2) (by omega)
    have e3 := drop_of_getD (z := z) (i := 3) (by omega)
    have e4 := drop_of_getD (z := z) (i := 4) (by omega)
    have e5 := drop_of_getD (z := z) (i := 5) (by omega)
    rw [List.drop_zero] at e0
    rw [f0] at e0; rw [f1] at e1; rw [f2] at e2
    rw [← e5, ← e4, ← e3, ← e2, ← e1, ← e0]
  obtain ⟨n3, hn3⟩ : ∃ n3, n3 = z.getD 3 0 := ⟨_, rfl⟩
  rw [← hn3] at f3 f4 hw1 z0
  have hpre := pre_bd (byt_drop hz 6) 4
  have e256 : (256 : Int) ^ 4 = 4294967296 := rfl
  rw [e256] at hpre
  rcases f4 with ⟨a4, a3⟩ | ⟨a4, a3⟩ | ⟨a4, a3⟩
  · have hj' : j = 5 := by omega
    subst hj'
    have e : reqZ z = ⟨3, z.getD 5 0, 0, [], 0⟩ := by unfold reqZ; simp only [← hn3]; rw [if_neg (by omega), if_neg (by omega), a4]
    refine ⟨rfl, by omega, by omega, ?_, ?_, ?_⟩
    · rw [e]; refine ⟨⟨b5.1, f5, b5.2⟩, .inr (.inl ⟨rfl, rfl, rfl, rfl⟩)⟩
    · rw [e]
      conv => rhs; rw [z0, a3, a4]
      rfl
    · rw [e]; simp
  · have hj' : j = 6 := by omega
    subst hj'
    have b6 := byt_getD hz 6
    have e : reqZ z = ⟨4, z.getD 5 0, 0, [], z.getD 6 0⟩ := by unfold reqZ; simp only [← hn3]; rw [if_neg (by omega), if_pos a3, a4]
    refine ⟨rfl, by omega, by omega, ?_, ?_, ?_⟩
    · rw [e]; refine ⟨⟨b5.1, f5, b5.2⟩, .inr (.inr ⟨rfl, rfl, rfl, b6⟩)⟩
    · rw [e]
      conv => rhs; rw [z0, a3, a4, drop_of_getD (i := 6) hj]
      rfl
    · rw [e]; simp
  · have f10 := (flt0 (hall 10 (by omega))).2.2.2.2.2.2 rfl
    rw [← hn3] at f10
    have e : reqZ z = ⟨z.getD 4 0, z.getD 5 0, preZ (z.drop 6) 4, (z.take (4 + n3.toNat)).drop 11, 0⟩ := by unfold reqZ; simp only [← hn3]; rw [if_pos (by omega)]
    have hj' : 4 + n3.toNat = j + 1 := by omega
    rw [hj'] at e
    have hkl : ((z.take (j + 1)).drop 11).length = j + 1 - 11 := by rw [List.length_drop, List.length_take]; omega
    refine ⟨rfl, by omega, by omega, ?_, ?_, ?_⟩
    · rw [e]; refine ⟨⟨b5.1, f5, b5.2⟩, .inl ⟨a4, ?_, rfl⟩⟩
      show ((z.take (j + 1)).drop 11).length ≤ 64
      omega
    · rw [e]
      unfold encZ
      rw [if_pos (by show z.getD 4 0 < 3; omega)]
      simp only
      rw [hkl, be_pre 4 (z.drop 6) (byt_drop hz 6) (by rw [List.length_drop]; omega)]
      have d6 : z.drop 6 = (z.drop 6).take 4 ++ z.drop 10 := by
        have := (List.take_append_drop 4 (z.drop 6)).symm
        rw [List.drop_drop] at this
        exact this
      have d10 : z.drop 10 = z.getD 10 0 :: z.drop 11 := drop_of_getD (by omega)
      have e1 : (7 + ((j + 1 - 11 : Nat) : Int)) = n3 := by omega
      have e2 : ((j + 1 - 11 : Nat) : Int) = z.getD 10 0 := by omega
      rw [e1, e2]
      conv => rhs; rw [z0, d6, d10]
      obtain ⟨m, rfl⟩ : ∃ m, j = m + 10 := ⟨j - 10, by omega⟩
      have e3 : (z.take (m + 10 + 1)).drop 11 = (z.drop 11).take m := by rw [List.drop_take]; congr 1
      rw [e3]
      have hl4 : ((z.drop 6).take 4).length = 4 := by rw [List.length_take, List.length_drop]; omega
      simp only [List.take_succ_cons]
      rw [show m + 10 + 1 - 11 = m by omega] at *
      rw [take_app_len _ _ _ m (m + 5) (by omega)]
    · rw [e]; exact hpre
end Go.Proofs.Ytaghookljjpllaa
