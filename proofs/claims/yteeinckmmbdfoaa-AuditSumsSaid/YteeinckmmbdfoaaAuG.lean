/- Layer 20 (audit): what the laws share. -/
import Derived.Test.YteeinckmmbdfoaaAuF
namespace Go.Proofs.Yteeinckmmbdfoaa
set_option linter.unusedSimpArgs false
set_option linter.unusedVariables false
set_option maxRecDepth 100000
open Go.ChangeShapes Go.WideShapes Go.ChangeAt Go.RowKit Go.Maps
section
variable (r : Int) (s : ByteArray) (w : World)
set_option maxHeartbeats 1000000 in
theorem add_nil (a c : Int) : Calls Try.prog 10 #[.pointer none, .agg #[.int .i64 r, .string s], .int .i64 a, .int .i64 c] w fun e w' => e = .returned (.tuple #[]) ∧ Below w.heap.size w w' := by
  go_enter Try.func10, Try.ntmps10
  go_wp2
  first | go_end0 | ((try simp only [Exit.inBlock, Exit.then]); refine bodyPost_ret (results_none rfl _ _ _) rfl ?_)
  exact ⟨rfl, (Below.refl _ _).alloc (Nat.le_refl _) _⟩
set_option maxHeartbeats 1000000 in
theorem most_nil (len : Int) : Calls Try.prog 13 #[.pointer none, .agg #[.int .i64 r, .string s], .int .i64 len] w fun e w' => e = .returned (.int .i64 0) ∧ Below w.heap.size w w' := by
  go_enter Try.func13, Try.ntmps13
  go_wp2
  go_ret
  exact ⟨rfl, (Below.refl _ _).alloc (Nat.le_refl _) _⟩
set_option maxHeartbeats 1000000 in
theorem most_low (p : Addr) (len : Int) (hl : len < 1) : Calls Try.prog 13 #[.pointer (some p), .agg #[.int .i64 r, .string s], .int .i64 len] w fun e w' => e = .returned (.int .i64 0) ∧ Below w.heap.size w w' := by
  have d1 : decide (len < 1) = true := by rw [decide_eq_true_iff]; exact hl
  clear hl
  go_enter Try.func13, Try.ntmps13
  go_wp2
  go_ret
  exact ⟨rfl, (Below.refl _ _).alloc (Nat.le_refl _) _⟩
set_option maxHeartbeats 1000000 in
theorem sum_nil (f t : Int) : Calls Try.prog 12 #[.pointer none, .agg #[.int .i64 r, .string s], .int .i64 f, .int .i64 t] w fun e w' => e = .returned (.int .i64 0) ∧ Below w.heap.size w w' := by
  go_enter Try.func12, Try.ntmps12
  go_wp2
  go_ret
  exact ⟨rfl, (Below.refl _ _).alloc (Nat.le_refl _) _⟩
set_option maxHeartbeats 1000000 in
theorem all_nil : Calls Try.prog 11 #[.pointer none] w fun e w' => e = .returned (.slice none 0 0) ∧ w' = w := by
  go_enter Try.func11, Try.ntmps11
  go_wp2
  go_ret
  exact ⟨rfl, rfl⟩
end
/-- a ledger of the law's own: its blocks are such as P says. -/
structure LL (W w : World) (P : Nat → Prop) (b m n : Nat) (V : VM) (G : GM) : Prop where
  at_ : LedAt w b m n V G
  lo : ∀ g, LedAll b m V g → P g
  bl : Below W.heap.size W w
section
variable {W w w' : World} {P Q : Nat → Prop} {b m n n' : Nat} {V V' : VM} {G G' : GM}
theorem LL.keep (h : LL W w P b m n V G) (hb : Below w.heap.size w w') : LL W w' P b m n V G := ⟨h.at_.keep hb, h.lo, auB h.bl hb⟩
theorem LL.weak (h : LL W w P b m n V G) (hq : ∀ g, g < w.heap.size → P g → Q g) : LL W w Q b m n V G := ⟨h.at_, fun g hg => hq g (h.at_.lt g hg) (h.lo g hg), h.bl⟩
theorem LL.op (h : LL W w P b m n V G) (h1 : LedAt w' b m n' V' G') (f : Fr (LedAll b m V) w w') (hg : ∀ g, LedAll b m V' g → LedAll b m V g ∨ w.heap.size ≤ g) (hP : ∀ g, w.heap.size ≤ g → P g) (hW : ∀ g, P g → W.heap.size ≤ g) : LL W w' P b m n' V' G' :=
  ⟨h1, fun g q => (hg g q).elim (h.lo g) (hP g), h.bl.trans (f.below h.bl.size (fun g q => hW g (h.lo g q)))⟩
/-- another's operation. -/
theorem LL.far {F : Nat → Prop} (h : LL W w P b m n V G) (f : Fr F w w') (hF : ∀ g, F g → ¬ LedAll b m V g) (hW : ∀ g, F g → W.heap.size ≤ g) : LL W w' P b m n V G :=
  ⟨h.at_.fr f (fun g hg hf => hF g hf hg), h.lo, h.bl.trans (f.below h.bl.size hW)⟩
end
/-- when, and how much. -/
abbrev prs (l : List TE) : List (Int × Int) := l.map fun e => (e.a, e.c)
def okT (l : List TE) : Prop := ∀ e ∈ l, (0 ≤ e.a ∧ e.a ≤ 1023) ∧ (0 ≤ e.c ∧ e.c ≤ 1023) ∧ (0 ≤ e.k.r ∧ e.k.r ≤ 3)
theorem okT_tame (L : List Ent) : okT (L.map tameE) := by
  intro e he
  obtain ⟨x, _, rfl⟩ := List.mem_map.1 he
  exact ⟨⟨Int.emod_nonneg _ (by omega), by have := Int.emod_lt_of_pos x.a (show (0 : Int) < 1024 by omega); show x.a % 1024 ≤ 1023; omega⟩, ⟨Int.emod_nonneg _ (by omega), by have := Int.emod_lt_of_pos x.c (show (0 : Int) < 1024 by omega); show x.c % 1024 ≤ 1023; omega⟩, ⟨Int.emod_nonneg _ (by omega), by have := Int.emod_lt_of_pos x.r (show (0 : Int) < 4 by omega); show x.r % 4 ≤ 3; omega⟩⟩
theorem costs_prs {l : List TE} (h : okT l) : costs (prs l) := by
  intro x hx
  obtain ⟨e, he, rfl⟩ := List.mem_map.1 hx
  have := h e he
  exact ⟨this.2.1, this.1.1, this.1.2⟩
theorem okT_take {l : List TE} (h : okT l) (n : Nat) : okT (l.take n) := fun e he => h e (List.mem_of_mem_take he)
/-- the cells of a tame entry, where its row lies. -/
theorem OwT.cells {w w' : World} {base i : Nat} {A : Option Addr} {n c : Nat} {l : List TE} {e : TE} (h : OwT w base (.slice A n c) l) (hn : n = l.length) (hi : l[i]? = some e) (hb : Below w.heap.size w w') :
    ∃ g, A = some ⟨g, 0, none⟩ ∧ w'.cell? ⟨g, i * 4, none⟩ = some (.int .i64 e.k.r) ∧ w'.cell? ⟨g, i * 4 + 1, none⟩ = some (.string e.k.s) ∧ w'.cell? ⟨g, i * 4 + 2, none⟩ = some (.int .i64 e.a) ∧ w'.cell? ⟨g, i * 4 + 3, none⟩ = some (.int .i64 e.c) := by
  subst hn
  have hil := (List.getElem?_eq_some_iff.1 hi).1
  obtain ⟨A', c', hv, h1, h2, h3⟩ := h.slice
  injection hv with q1 q2 q3
  subst q1 q3
  obtain ⟨g, rfl, hg1, hg2⟩ := h3 (by omega)
  refine ⟨g, rfl, ?_, ?_, ?_, ?_⟩
  · exact (hb.cell (p := ⟨g, i * 4, none⟩) hg2).trans (h.cell encT_len hi (j := 0) (by omega))
  · exact (hb.cell (p := ⟨g, i * 4 + 1, none⟩) hg2).trans (h.cell encT_len hi (j := 1) (by omega))
  · exact (hb.cell (p := ⟨g, i * 4 + 2, none⟩) hg2).trans (h.cell encT_len hi (j := 2) (by omega))
  · exact (hb.cell (p := ⟨g, i * 4 + 3, none⟩) hg2).trans (h.cell encT_len hi (j := 3) (by omega))
end Go.Proofs.Yteeinckmmbdfoaa
