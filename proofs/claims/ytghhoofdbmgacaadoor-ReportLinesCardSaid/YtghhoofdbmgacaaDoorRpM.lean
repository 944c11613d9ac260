/- Answers as lines: plain mathematics. -/
import Derived.Test.YtghhoofdbmgacaaDoorFaM
import Derived.Lib.ItoaNum
namespace Go.Proofs.YtghhoofdbmgacaaDoor
set_option linter.unusedSimpArgs false
set_option linter.unusedVariables false
open Go
/-- a number's digits. -/
def decZ (x : Int) : List Int := (Lib.itoa x).map fun c => (c.toNat : Int)
theorem dec_small {u : Nat} (h : u < 10) : (Lib.decDigits u).map (fun c => (c.toNat : Int)) = [48 + (u : Int)] := by
  rw [Lib.decDigits, dif_pos h, List.map_singleton, UInt8.toNat_ofNat']
  congr 1
  omega
theorem dec_big {u : Nat} (h : ¬ u < 10) : (Lib.decDigits u).map (fun c => (c.toNat : Int)) = (Lib.decDigits (u / 10)).map (fun c => (c.toNat : Int)) ++ [48 + ((u % 10 : Nat) : Int)] := by
  rw [Lib.decDigits, dif_neg h, List.map_append, List.map_singleton, UInt8.toNat_ofNat']
  congr 2
  omega
theorem decZ_one {n : Int} (h : 0 ≤ n ∧ n < 10) : decZ n = [48 + n] := by
  unfold decZ Lib.itoa
  rw [if_neg (by omega), dec_small (by omega)]
  congr 1
  omega
theorem decZ_more {n : Int} (h : 10 ≤ n) : decZ n = decZ (n / 10) ++ decZ (n % 10) := by
  rw [decZ_one (n := n % 10) (by omega)]
  unfold decZ Lib.itoa
  rw [if_neg (by omega), if_neg (by omega), dec_big (by omega)]
  rw [show n.toNat / 10 = (n / 10).toNat by omega]
  congr 2
  omega
theorem decZ_neg {n : Int} (h : n < 0) : decZ n = 45 :: decZ (-n) := by
  unfold decZ Lib.itoa
  rw [if_pos h, if_neg (by omega), List.map_cons]
  rw [show n.natAbs = (-n).toNat by omega]
  rfl
theorem dec_bd : ∀ (f u : Nat), u ≤ f → ∀ z ∈ (Lib.decDigits u).map (fun c => (c.toNat : Int)), 48 ≤ z ∧ z ≤ 57
  | 0, u, hu, z, hz => by
    rw [dec_small (by omega)] at hz
    simp only [List.mem_singleton] at hz
    omega
  | f + 1, u, hu, z, hz => by
    by_cases h : u < 10
    · rw [dec_small h] at hz
      simp only [List.mem_singleton] at hz
      omega
    · rw [dec_big h] at hz
      rcases List.mem_append.1 hz with g | g
      · exact dec_bd f (u / 10) (by omega) z g
      · simp only [List.mem_singleton] at g
        omega
theorem decZ_bd (n : Int) : ∀ z ∈ decZ n, 45 ≤ z ∧ z ≤ 57 := by
  intro z hz
  unfold decZ Lib.itoa at hz
  split at hz
  · rw [List.map_cons] at hz
    rcases List.mem_cons.1 hz with g | g
    · rw [g]; decide
    · have := dec_bd _ _ (Nat.le_refl _) z g; omega
  · have := dec_bd _ _ (Nat.le_refl _) z hz; omega
theorem decZ_min : decZ (-9223372036854775808) = [45, 57, 50, 50, 51, 51, 55, 50, 48, 51, 54, 56, 53, 52, 55, 55, 53, 56, 48, 56] := by
  rw [decZ_neg (by omega)]
  simp only [Int.neg_neg]
  rw [decZ_more (by omega), decZ_more (n := 9223372036854775808 / 10) (by omega)]
  simp only [Int.reduceDiv, Int.reduceMod]
  repeat (first | rw [decZ_more (n := 92233720368547758) (by omega)] | rw [decZ_more (n := 9223372036854775) (by omega)] | rw [decZ_more (n := 922337203685477) (by omega)] | rw [decZ_more (n := 92233720368547) (by omega)] | rw [decZ_more (n := 9223372036854) (by omega)] | rw [decZ_more (n := 922337203685) (by omega)] | rw [decZ_more (n := 92233720368) (by omega)] | rw [decZ_more (n := 9223372036) (by omega)] | rw [decZ_more (n := 922337203) (by omega)] | rw [decZ_more (n := 92233720) (by omega)] | rw [decZ_more (n := 9223372) (by omega)] | rw [decZ_more (n := 922337) (by omega)] | rw [decZ_more (n := 92233) (by omega)] | rw [decZ_more (n := 9223) (by omega)] | rw [decZ_more (n := 922) (by omega)] | rw [decZ_more (n := 92) (by omega)] | simp only [Int.reduceDiv, Int.reduceMod])
  simp only [decZ_one (show (0 : Int) ≤ 0 ∧ (0 : Int) < 10 by omega), decZ_one (show (0 : Int) ≤ 2 ∧ (2 : Int) < 10 by omega), decZ_one (show (0 : Int) ≤ 3 ∧ (3 : Int) < 10 by omega), decZ_one (show (0 : Int) ≤ 4 ∧ (4 : Int) < 10 by omega), decZ_one (show (0 : Int) ≤ 5 ∧ (5 : Int) < 10 by omega), decZ_one (show (0 : Int) ≤ 6 ∧ (6 : Int) < 10 by omega), decZ_one (show (0 : Int) ≤ 7 ∧ (7 : Int) < 10 by omega), decZ_one (show (0 : Int) ≤ 8 ∧ (8 : Int) < 10 by omega), decZ_one (show (0 : Int) ≤ 9 ∧ (9 : Int) < 10 by omega)]
  rfl
/-- numbers, each with a blank ahead of it. -/
def numsZ : List Int → List Int
  | [] => []
  | x :: l => 32 :: (decZ x ++ numsZ l)
theorem numsZ_app : ∀ l m, numsZ (l ++ m) = numsZ l ++ numsZ m
  | [], _ => rfl
  | x :: l, m => by rw [List.cons_append, numsZ, numsZ, numsZ_app l m]; simp
def hexD (n : Int) : Int := if n < 10 then 48 + n else 87 + n
def hexL : List Int → List Int
  | [] => []
  | x :: r => hexD (x / 16) :: hexD (x % 16) :: hexL r
theorem hexL_app : ∀ l m, hexL (l ++ m) = hexL l ++ hexL m
  | [], _ => rfl
  | x :: l, m => by rw [List.cons_append, hexL, hexL, hexL_app l m]; rfl
theorem hexL_length : ∀ l, (hexL l).length = 2 * l.length
  | [] => rfl
  | x :: l => by rw [hexL, List.length_cons, List.length_cons, hexL_length l, List.length_cons]; omega
theorem hexD_bd {n : Int} (h : 0 ≤ n ∧ n < 16) : 48 ≤ hexD n ∧ hexD n ≤ 102 := by unfold hexD; split <;> omega
theorem hexL_bd : ∀ {l : List Int}, byt l → ∀ z ∈ hexL l, 48 ≤ z ∧ z ≤ 102
  | [], _, z, hz => by cases hz
  | x :: l, h, z, hz => by
    have hx := h x (by simp)
    rw [hexL] at hz
    rcases List.mem_cons.1 hz with g | hz
    · rw [g]; exact hexD_bd (by omega)
    · rcases List.mem_cons.1 hz with g | hz
      · rw [g]; exact hexD_bd (by omega)
      · exact hexL_bd (fun y hy => h y (by simp [hy])) z hz
def keyZ (k : List Int) : List Int := if k = [] then [45] else hexL k
def verZ (v : Int) : List Int := if v = 1 then [97, 108, 108, 111, 119] else if v = 2 then [100, 101, 110, 121] else [99, 111, 115, 116]
def rowsZ : List Cnt → List Int
  | [] => []
  | c :: l => 32 :: (keyZ c.key ++ (numsZ [c.n, c.e] ++ rowsZ l))
theorem rowsZ_app : ∀ l m, rowsZ (l ++ m) = rowsZ l ++ rowsZ m
  | [], _ => rfl
  | x :: l, m => by rw [List.cons_append, rowsZ, rowsZ, rowsZ_app l m]; simp
/-- an answer's line. -/
def lineZ (s : Sd) : List Int :=
  if s.op = 1 then [99, 104, 101, 99, 107] ++ (32 :: (verZ s.v ++ numsZ [s.rem, s.ret]))
  else if s.op = 2 then [112, 101, 101, 107] ++ (32 :: (verZ s.v ++ numsZ [s.rem, s.ret]))
  else if s.op = 3 then [115, 116, 97, 116, 115] ++ numsZ [s.rule, s.a, s.d, s.b, s.c, s.wt]
  else if s.op = 4 then [116, 111, 112] ++ (numsZ [s.rule] ++ rowsZ s.list)
  else if s.op = 127 then [102, 97, 117, 108, 116] ++ numsZ [s.err]
  else []
def txt (l : List Int) : Prop := ∀ z ∈ l, 32 ≤ z ∧ z ≤ 122
theorem txt_app {l m : List Int} (h : txt l) (g : txt m) : txt (l ++ m) := fun z hz => (List.mem_append.1 hz).elim (h z) (g z)
theorem txt_cons {x : Int} {l : List Int} (h : 32 ≤ x ∧ x ≤ 122) (g : txt l) : txt (x :: l) := fun z hz => by
  rcases List.mem_cons.1 hz with e | e
  · rw [e]; exact h
  · exact g z e
theorem txt_dec (n : Int) : txt (decZ n) := fun z hz => by have := decZ_bd n z hz; omega
theorem txt_nums : ∀ l, txt (numsZ l)
  | [] => fun z hz => by cases hz
  | x :: l => txt_cons (by omega) (txt_app (txt_dec x) (txt_nums l))
theorem txt_key {k : List Int} (h : byt k) : txt (keyZ k) := by
  unfold keyZ
  split
  · intro z hz; simp only [List.mem_singleton] at hz; omega
  · intro z hz; have := hexL_bd h z hz; omega
theorem txt_ver (v : Int) : txt (verZ v) := by
  unfold verZ
  split
  · intro z hz; simp at hz; omega
  · split
    · intro z hz; simp at hz; omega
    · intro z hz; simp at hz; omega
theorem txt_rows : ∀ {l : List Cnt}, (∀ c ∈ l, byt c.key) → txt (rowsZ l)
  | [], _ => fun z hz => by cases hz
  | c :: l, h => txt_cons (by omega) (txt_app (txt_key (h c (by simp))) (txt_app (txt_nums _) (txt_rows (fun x hx => h x (by simp [hx])))))
theorem txt_line {s : Sd} (h : okS s) : txt (lineZ s) := by
  have hk : ∀ c ∈ s.list, byt c.key := by
    rcases h with ⟨_, _, _, _, e⟩ | ⟨_, _, _, _, _, _, e⟩ | ⟨_, _, ho, _⟩ | ⟨_, e⟩
    · rw [e]; intro c hc; cases hc
    · rw [e]; intro c hc; cases hc
    · intro c hc; exact (ho c hc).2.1
    · rw [e]; intro c hc; cases hc
  unfold lineZ
  split
  · exact txt_app (by intro z hz; simp at hz; omega) (txt_cons (by omega) (txt_app (txt_ver _) (txt_nums _)))
  · split
    · exact txt_app (by intro z hz; simp at hz; omega) (txt_cons (by omega) (txt_app (txt_ver _) (txt_nums _)))
    · split
      · exact txt_app (by intro z hz; simp at hz; omega) (txt_nums _)
      · split
        · exact txt_app (by intro z hz; simp at hz; omega) (txt_app (txt_nums _) (txt_rows hk))
        · split
          · exact txt_app (by intro z hz; simp at hz; omega) (txt_nums _)
          · intro z hz; cases hz
/-- the lines of a stream of answers, and how many bytes they take. -/
def streamF : Nat → List Int → List Int × Nat
  | 0, _ => ([], 0)
  | f + 1, z => match readZ z with
    | none => ([], 0)
    | some (s, m) => (lineZ s ++ 10 :: (streamF f (z.drop m)).1, m + (streamF f (z.drop m)).2)
end Go.Proofs.YtghhoofdbmgacaaDoor
