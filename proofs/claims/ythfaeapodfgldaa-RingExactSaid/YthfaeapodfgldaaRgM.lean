/- The contracts of layer 7 (ring): where a ring lies, what it has. -/
import Derived.Test.YthfaeapodfgldaaSlL
import Derived.Test.YthfaeapodfgldaaRws
import Derived.Test.YthfaeapodfgldaaUpH
namespace Go.Proofs.Ythfaeapodfgldaa
set_option linter.unusedSimpArgs false
set_option linter.unusedVariables false
open Go.ChangeShapes Go.WideShapes Go.ChangeAt Go.RowKit
open Ar (inR)
/-- where a ring lies, and what does not change of it. -/
structure RgN where
  x : Nat
  pb : Nat
  n : Nat
  s : Nat
  L : Int
  sm : Bool
  k : Nat
  W : Nat
  X : Nat → Nat
  A : Nat → Nat
  B : Nat → Nat
  bs : Nat → Nat
  gs : Nat → Nat
def RgN.SN (R : RgN) (i : Nat) : SlN := ⟨R.bs i, R.gs i, R.k, R.W, R.X, R.A, R.B⟩
/-- a key's place in a row of each slot. -/
def RgN.P (R : RgN) (j : Nat) (s : ByteArray) : Nat := plc (Ha.hof (R.X j) (R.A j) (R.B j) s.data.toList) (R.W : Int)
theorem RgN.SN_P (R : RgN) (i : Nat) : (R.SN i).P = R.P := rfl
/-- what a ring has: its time, the numbers of its parts, their counters. -/
structure RgS where
  t : Int
  num : Nat → Int
  F : Nat → Nat → Nat → Int
def encPt (a : Int × Nat) : List Value := [.int .i64 a.1, .pointer (some ⟨a.2, 0, none⟩)]
theorem encPt_len (a : Int × Nat) : (encPt a).length = 2 := rfl
def ptL (R : RgN) (num : Nat → Int) : List (Int × Nat) := (List.range R.n).map fun i => (num i, R.bs i)
theorem ptL_len (R : RgN) (num : Nat → Int) : (ptL R num).length = R.n := by simp [ptL]
theorem ptL_get (R : RgN) (num : Nat → Int) {i : Nat} (h : i < R.n) : (ptL R num)[i]? = some (num i, R.bs i) := by
  unfold ptL
  rw [List.getElem?_map, List.getElem?_range h]; rfl
abbrev ringC (R : RgN) (t : Int) : Array Value := #[.slice (some ⟨R.pb, 0, none⟩) R.n R.n, .int .i64 (R.s : Int), .int .i64 R.L, .int .i64 t, .bool R.sm]
/-- a ring in memory. -/
structure RgAt (w : World) (R : RgN) (σ : RgS) : Prop where
  hx : Blk w R.x 57 (ringC R σ.t)
  hp : Blk w R.pb 61 (rws encPt (ptL R σ.num)).toArray
  hs : ∀ i, i < R.n → SlAt w (R.SN i) (σ.F i)
  nx : R.x ≠ R.pb
  ns : ∀ i, i < R.n → (R.bs i ≠ R.x ∧ R.bs i ≠ R.pb) ∧ R.gs i ≠ R.x ∧ R.gs i ≠ R.pb
  ng : ∀ i j, i < R.n → j < R.n → R.gs i ≠ R.bs j ∧ (i ≠ j → R.gs i ≠ R.gs j)
  bd : (2 ≤ R.n ∧ R.n ≤ 65) ∧ (1 ≤ R.s ∧ R.s ≤ 9223372036854775807) ∧ inR R.L
  ht : 0 ≤ σ.t ∧ σ.t ≤ 9223372036854775807
  hn : ∀ i, 0 ≤ σ.num i ∧ σ.num i ≤ 9223372036854775807
/-- the blocks that its calls change. -/
def RgN.F (R : RgN) (b : Nat) : Prop := b = R.x ∨ b = R.pb ∨ ∃ i, i < R.n ∧ b = R.gs i
def RgN.all (R : RgN) (b : Nat) : Prop := R.F b ∨ ∃ i, i < R.n ∧ b = R.bs i
section
variable {w w' : World} {R : RgN} {σ : RgS}
theorem RgAt.fr {W : World} {F : Nat → Prop} (h : RgAt W R σ) (hf : Fr F W w) (hF : ∀ b, R.all b → ¬ F b) : RgAt w R σ :=
  ⟨h.hx.fr hf (hF _ (Or.inl (Or.inl rfl))), h.hp.fr hf (hF _ (Or.inl (Or.inr (Or.inl rfl)))), fun i hi => (h.hs i hi).fr hf (hF _ (Or.inr ⟨i, hi, rfl⟩)) (hF _ (Or.inl (Or.inr (Or.inr ⟨i, hi, rfl⟩)))), h.nx, h.ns, h.ng, h.bd, h.ht, h.hn⟩
theorem RgAt.keep {W : World} (h : RgAt W R σ) (hb : Below W.heap.size W w) : RgAt w R σ := h.fr (F := fun _ => False) (Fr.of_below hb) (fun _ _ => id)
theorem RgAt.lt (h : RgAt w R σ) : ∀ b, R.all b → b < w.heap.size := by
  rintro b ((rfl | rfl | ⟨i, hi, rfl⟩) | ⟨i, hi, rfl⟩)
  · exact lt_of_block h.hx
  · exact lt_of_block h.hp
  · exact lt_of_block (h.hs i hi).hg
  · obtain ⟨C, c1, _⟩ := (h.hs i hi).hb; exact lt_of_block c1
theorem RgAt.part (h : RgAt w R σ) {i : Nat} (hi : i < R.n) : w.cell? ⟨R.pb, i * 2, none⟩ = some (.int .i64 (σ.num i)) ∧ w.cell? ⟨R.pb, i * 2 + 1, none⟩ = some (.pointer (some ⟨R.bs i, 0, none⟩)) :=
  ⟨rws_cell encPt_len h.hp (ptL_get R σ.num hi) (j := 0) (by omega), rws_cell encPt_len h.hp (ptL_get R σ.num hi) (j := 1) (by omega)⟩
/-- what a key has in the first j parts of those numbered from one to another. -/
def lsum (R : RgN) (σ : RgS) (s : ByteArray) (a b : Int) : Nat → Int
  | 0 => 0
  | j + 1 => if a ≤ σ.num j ∧ σ.num j ≤ b then clamp (lsum R σ s a b j + Sk.leastR (σ.F j) R.P s (R.k - 1)) else lsum R σ s a b j
theorem clamp_two {a b : Int} (ha : 0 ≤ a ∧ a ≤ 9223372036854775807) (hb : 0 ≤ b ∧ b ≤ 9223372036854775807) : 0 ≤ clamp (a + b) ∧ clamp (a + b) ≤ 9223372036854775807 := by
  unfold clamp
  split
  · omega
  · split <;> omega
theorem lsum_in {j : Nat} (h : ∀ i, i < j → Sk.okC (σ.F i)) (s : ByteArray) (a b : Int) : 0 ≤ lsum R σ s a b j ∧ lsum R σ s a b j ≤ 9223372036854775807 := by
  induction j with
  | zero => exact ⟨Int.le_refl _, by show (0:Int) ≤ _; omega⟩
  | succ j ih =>
    have ih := ih (fun i hi => h i (by omega))
    unfold lsum
    split
    · exact clamp_two ih ((h j (by omega)).least R.P s (R.k - 1))
    · exact ih
theorem rto_nil (t : Int) (w : World) : Calls Try.prog 16 #[.pointer none, .int .i64 t] w fun e w' => e = .returned (.tuple #[]) ∧ w = w' := by
  go_enter Try.func16, Try.ntmps16
  go_wp2
  go_end0
  exact ⟨rfl, rfl⟩
theorem rto_any (t : Int) (ht : -9223372036854775808 ≤ t ∧ t ≤ 9223372036854775807) (w : World) (h : RgAt w R σ) :
    Calls Try.prog 16 #[.pointer (some ⟨R.x, 0, none⟩), .int .i64 t] w fun e w' => e = .returned (.tuple #[]) ∧ RgAt w' R ⟨max σ.t t, σ.num, σ.F⟩ ∧ Fr (fun b => b = R.x) w w' := by
  have k := h.hx.rd
  have kw := h.hx.wr
  have HH := Lib.hid h
  obtain ⟨m, hm⟩ : ∃ m, m = max σ.t t := ⟨_, rfl⟩
  have em : max σ.t t = m := hm.symm
  have hmb : 0 ≤ m ∧ m ≤ 9223372036854775807 := by have := h.ht; omega
  have HM := Lib.hid (And.intro hm hmb)
  clear h hm hmb
  go_enter Try.func16, Try.ntmps16
  go_wp2
  go_end0
  have hh := HH.out
  have e5 : (ringC R σ.t).setIfInBounds 3 (.int .i64 m) = ringC R m := rfl
  rw [setCell_obj hh.hx, e5]
  have hf : Fr (fun b => b = R.x) w (setObj w R.x (.cells (ringC R m) 57 (0, 0))) := Fr.setObj (F := fun b => b = R.x) (Fr.refl _ _) rfl _
  rw [← HM.out.1]
  exact ⟨rfl, ⟨setObj_at (lt_of_block hh.hx) _, hh.hp.fr hf (fun e => hh.nx e.symm), fun i hi => (hh.hs i hi).fr hf (hh.ns i hi).1.1 (hh.ns i hi).2.1, hh.nx, hh.ns, hh.ng, hh.bd, HM.out.2, hh.hn⟩, hf⟩
theorem rnumber_nil (t : Int) (w : World) : Calls Try.prog 20 #[.pointer none, .int .i64 t] w fun e w' => e = .returned (.int .i64 0) ∧ w = w' := by
  go_enter Try.func20, Try.ntmps20
  go_wp2
  go_ret
  exact ⟨rfl, rfl⟩
theorem rnumber_any (t : Int) (ht : 0 ≤ t ∧ t ≤ 9223372036854775807) (w : World) (h : RgAt w R σ) :
    Calls Try.prog 20 #[.pointer (some ⟨R.x, 0, none⟩), .int .i64 t] w fun e w' => e = .returned (.int .i64 (t / (R.s : Int))) ∧ w = w' := by
  have k := h.hx.rd
  have hs := h.bd.2.1
  obtain ⟨q, hq⟩ : ∃ q, q = t / (R.s : Int) := ⟨_, rfl⟩
  have hq2 : t.tdiv (R.s : Int) = q := by rw [hq]; exact Int.tdiv_eq_ediv_of_nonneg ht.1
  have hqb : 0 ≤ q ∧ q ≤ t := by
    rw [hq]
    exact ⟨Int.ediv_nonneg ht.1 (by omega), Int.ediv_le_self _ ht.1⟩
  have hw : wrap64 q = q := by unfold wrap64; omega
  have hs0 : ¬ (R.s : Int) = 0 := by omega
  rw [← hq]
  clear h hs hq
  go_enter Try.func20, Try.ntmps20
  go_wp2
  go_ret
  exact ⟨rfl, rfl⟩
end
end Go.Proofs.Ythfaeapodfgldaa
