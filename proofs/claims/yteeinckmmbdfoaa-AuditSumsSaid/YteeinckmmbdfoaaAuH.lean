/- Layer 20 (audit): what a ledger holds behind some entries; the greatest sum of any length. -/
import Derived.Test.YteeinckmmbdfoaaAuV
import Derived.Laws.StructEq
namespace Go.Proofs.Yteeinckmmbdfoaa
set_option linter.unusedSimpArgs false
set_option linter.unusedVariables false
set_option maxRecDepth 100000
open Go.ChangeShapes Go.WideShapes Go.ChangeAt Go.RowKit Go.Maps
/-- the entries of a key. -/
abbrev ofK (k : Who) (l : List TE) : List TE := l.filter (fun e => decide (e.k = k))
/-- what a ledger holds. -/
structure Hld (V : VM) (G : GM) (cn : Nat) (l : List TE) : Prop where
  g : ∀ k, G k = prs (ofK k l)
  v : ∀ k, (V k).isSome = true ↔ ∃ e ∈ l, e.k = k
  c : cn ≤ l.length
theorem Hld.nil : Hld (fun _ => none) (fun _ => []) 0 [] := ⟨fun _ => rfl, fun k => ⟨fun h => (by cases h), fun ⟨e, h, _⟩ => (by cases h)⟩, Nat.le_refl _⟩
theorem Hld.add {V : VM} {G : GM} {cn : Nat} {l : List TE} (h : Hld V G cn l) (e : TE) (v' : Value) : Hld (putV V e.k v') (updG G e.k (G e.k ++ [(e.a, e.c)])) (cntV V e.k cn) (l ++ [e]) := by
  refine ⟨fun k => ?_, fun k => ?_, ?_⟩
  · by_cases q : k = e.k
    · subst q
      rw [updG_self, h.g]
      simp [prs, ofK, List.filter_append]
    · rw [updG_ne _ _ q, h.g]
      have : ¬ e.k = k := fun r => q r.symm
      simp [prs, ofK, List.filter_append, this]
  · unfold putV
    by_cases q : k = e.k
    · subst q
      rw [if_pos rfl]
      exact ⟨fun _ => ⟨e, List.mem_append_right _ (List.mem_singleton_self _), rfl⟩, fun _ => rfl⟩
    · rw [if_neg q, h.v]
      constructor
      · rintro ⟨x, hx, r⟩; exact ⟨x, List.mem_append_left _ hx, r⟩
      · rintro ⟨x, hx, r⟩
        rcases List.mem_append.1 hx with y | y
        · exact ⟨x, y, r⟩
        · rw [List.mem_singleton] at y
          exact absurd (by rw [← r, y]) q
  · unfold cntV
    rw [List.length_append, List.length_singleton]
    have := h.c
    split <;> omega
theorem okT_of {k : Who} {l : List TE} (h : okT l) : okT (ofK k l) := fun e he => h e (List.mem_filter.1 he).1
theorem Hld.len {V : VM} {G : GM} {cn : Nat} {l : List TE} (h : Hld V G cn l) (k : Who) : (G k).length ≤ l.length := by
  rw [h.g]
  simp only [prs, List.length_map]
  exact List.length_filter_le _ _
theorem Hld.costs {V : VM} {G : GM} {cn : Nat} {l : List TE} (h : Hld V G cn l) (hl : okT l) (k : Who) : costs (G k) := by
  rw [h.g]; exact costs_prs (okT_of hl)
/-- the greatest sum, whatever the length. -/
def MV (len : Int) (l : List (Int × Int)) (v : Int) : Prop := (len < 1 ∧ v = 0) ∨ (1 ≤ len ∧ IsMost len l v)
theorem MV.eq {len : Int} {l m : List (Int × Int)} {v u : Int} (h : MV len l v) (g : MV len m u) (hp : ∀ f t, sumIn f t l = sumIn f t m) : v = u := by
  rcases h with ⟨h1, h2⟩ | ⟨h1, h2⟩ <;> rcases g with ⟨g1, g2⟩ | ⟨g1, g2⟩
  · rw [h2, g2]
  · omega
  · omega
  · exact h2.eq g2 hp
theorem IsMost.more {len : Int} {l : List (Int × Int)} {v u : Int} (h : IsMost len l v) (g : IsMost (len + 1) l u) (hc : Go.Proofs.Yteeinckmmbdfoaa.costs l) : v ≤ u := by
  rcases h.is with e | ⟨x, _, e⟩
  · rw [e]; exact g.nn
  · rw [e]
    exact Int.le_trans (sumIn_wide (Int.le_refl _) (by omega) l hc) (g.ge x.1)
def MVPost (len : Int) (l : List (Int × Int)) (w : World) (e : Ending) (w' : World) : Prop := ∃ v : Int, MV len l v ∧ e = .returned (.int .i64 v) ∧ Below w.heap.size w w'
theorem ledmost_len (k : Who) (len : Int) (hl : 0 ≤ len ∧ len ≤ 1000) (w : World) {b m n : Nat} {V : VM} {G : GM} (h : LedAt w b m n V G) (hc : costs (G k)) (hn : (G k).length ≤ 1000) :
    Calls Try.prog 13 #[.pointer (some ⟨b, 0, none⟩), .agg #[.int .i64 k.r, .string k.s], .int .i64 len] w fun e w' => MVPost len (G k) w e w' := by
  by_cases q : len < 1
  · exact (most_low k.r k.s w ⟨b, 0, none⟩ len q).mono fun e w' ⟨h1, h2⟩ => ⟨0, .inl ⟨q, rfl⟩, h1, h2⟩
  · exact (ledmost_any k len ⟨by omega, hl.2⟩ w h hc hn).mono fun e w' ⟨v, h1, h2, h3⟩ => ⟨v, .inr ⟨by omega, h1⟩, h2, h3⟩
theorem sumIn_prs {k : Who} {l m : List TE} (h : l.Perm m) (f t : Int) : sumIn f t (prs (ofK k l)) = sumIn f t (prs (ofK k m)) := sumIn_perm ((h.filter _).map _)
/-- two keys are compared. -/
theorem who_equal (r r' : Int) (s s' : ByteArray) (w : World) :
    (Op.equalIn 10000 31 (.agg #[.int .i64 r, .string s]) (.agg #[.int .i64 r', .string s'])).run Try.prog w = .ok (decide (r = r' ∧ s = s')) w := by
  have hS : Try.prog.underlying 31 = some (.struct (Try.prog.fieldsOf 31)) := by kernel_rfl
  have hp : Try.prog.stoodInHeld 31 = false := by kernel_rfl
  have hb : (s.toList == s'.toList) = decide (s = s') := by
    by_cases h : s = s'
    · subst h; simp
    · rw [decide_eq_false h]
      refine beq_eq_false_iff_ne.2 (fun e => h ?_)
      rw [ByteArray.toList_eq, ByteArray.toList_eq] at e
      exact ByteArray.ext (Array.ext' e)
  rw [show (10000 : Nat) = 9999 + 1 from rfl, run_equalIn_agg w 9999 31 _ _ hS hp]
  simp only [Program.fieldsOf, Try.underlying31]
  go_simp
  by_cases h1 : r = r' <;> by_cases h4 : s = s' <;> simp [h1, h4, hb]
/-- the cells of a row of keys, where it lies. -/
theorem OwW.cells {w w' : World} {base i : Nat} {A : Option Addr} {n c : Nat} {l : List Who} {k : Who} (h : OwR w base 31 2 encW (.slice A n c) l) (hn : n = l.length) (hi : l[i]? = some k) (hb : Below w.heap.size w w') :
    ∃ g, A = some ⟨g, 0, none⟩ ∧ w'.cell? ⟨g, i * 2, none⟩ = some (.int .i64 k.r) ∧ w'.cell? ⟨g, i * 2 + 1, none⟩ = some (.string k.s) := by
  subst hn
  have hil := (List.getElem?_eq_some_iff.1 hi).1
  obtain ⟨A', c', hv, h1, h2, h3⟩ := h.slice
  injection hv with q1 q2 q3
  subst q1 q3
  obtain ⟨g, rfl, hg1, hg2⟩ := h3 (by omega)
  exact ⟨g, rfl, (hb.cell (p := ⟨g, i * 2, none⟩) hg2).trans (h.cell encW_len hi (j := 0) (by omega)), (hb.cell (p := ⟨g, i * 2 + 1, none⟩) hg2).trans (h.cell encW_len hi (j := 1) (by omega))⟩
end Go.Proofs.Yteeinckmmbdfoaa
