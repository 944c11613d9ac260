/- Rows of things that the call owns: read, stored into. -/
import Derived.Test.YtmdkokehomboaaaGen
import Derived.Test.YtmdkokehomboaaaRws
namespace Go.Proofs.Ytmdkokehomboaaa
set_option linter.unusedSimpArgs false
set_option linter.unusedVariables false
set_option maxRecDepth 100000
open Go Go.RowKit
theorem own_put {w : World} {base size g n c : Nat} {e : TypeId} {xs : List Value} (h : w.ownsRow base e size (.slice (some ⟨g, 0, none⟩) n c) n xs) (i : Nat) (v : Value) :
    (w.setCell ⟨g, i, none⟩ v).ownsRow base e size (.slice (some ⟨g, 0, none⟩) n c) n (xs.set i v) ∧ Fr (fun k => k = g) w (w.setCell ⟨g, i, none⟩ v) ∧ (w.setCell ⟨g, i, none⟩ v).heap.size = w.heap.size := by
  rcases h.2 with ⟨hv, _⟩ | ⟨g', cap, cur, hv, hb, hg, hnc, hcm, hcs, htake⟩
  · cases hv
  · injection hv with h1 h2 h3
    injection h1 with h1
    injection h1 with h1
    subst h1 h3
    rw [setCell_obj hg]
    refine ⟨⟨by rw [List.length_set]; exact h.1, .inr ⟨g, c, cur.setIfInBounds i v, rfl, hb, setObj_at (lt_of_block hg) _, hnc, hcm, by rw [Array.size_setIfInBounds]; exact hcs, ?_⟩⟩, Fr.setObj (F := fun k => k = g) (Fr.refl _ _) rfl _, setObj_size _ _ _⟩
    rw [Array.toList_setIfInBounds, List.take_set, htake]
/-- a row of things of m cells each, that the call owns. -/
def OwR {α : Type} (w : World) (base : Nat) (e : TypeId) (m : Nat) (enc : α → List Value) (v : Value) (L : List α) : Prop := w.ownsRow base e m v L.length (rws enc L)
section
variable {α : Type} {w w' : World} {base m : Nat} {e : TypeId} {enc : α → List Value} {v : Value} {L : List α}
theorem OwR.nil : OwR w base e m enc (.slice none 0 0) ([] : List α) := World.ownsRow_nil _ _ _ _
theorem OwR.fr {F : Nat → Prop} (h : OwR w base e m enc v L) (hf : Fr F w w') (hF : ∀ g, v.ownBlock = some g → ¬ F g) : OwR w' base e m enc v L := G.own_fr h hf hF
theorem OwR.keep (h : OwR w base e m enc v L) (hb : Below w.heap.size w w') : OwR w' base e m enc v L := G.own_below h hb
theorem OwR.base_le (h : OwR w base e m enc v L) : ∀ g, v.ownBlock = some g → base ≤ g := G.own_base h
theorem OwR.lt (h : OwR w base e m enc v L) : ∀ g, v.ownBlock = some g → g < w.heap.size := G.own_lt h
theorem OwR.slice (h : OwR w base e m enc v L) : ∃ A c, v = .slice A L.length c ∧ L.length ≤ c ∧ c ≤ maxLen ∧ (0 < L.length → ∃ g, A = some ⟨g, 0, none⟩ ∧ base ≤ g ∧ g < w.heap.size) := by
  obtain ⟨A, c, hv, h1, h2, h3⟩ := G.own_at h
  exact ⟨A, c, hv, h1, h2, fun h0 => by obtain ⟨g, e1, _, e2, e3, _⟩ := h3 h0; exact ⟨g, e1, e2, e3⟩⟩
theorem OwR.cell (he : ∀ a, (enc a).length = m) {g c n : Nat} (h : OwR w base e m enc (.slice (some ⟨g, 0, none⟩) n c) L) {i : Nat} {a : α} (hi : L[i]? = some a) {j : Nat} (hj : j < m) : w.cell? ⟨g, i * m + j, none⟩ = (enc a)[j]? := by
  have hil := (List.getElem?_eq_some_iff.1 hi).1
  obtain ⟨A, c', hv, h1, h2, h3⟩ := G.own_at h
  injection hv with hv1 hv2 hv3
  obtain ⟨g', e1, _, e2, e3, h4, h5⟩ := h3 (by omega)
  rw [← hv1] at e1
  injection e1 with e1
  injection e1 with e1
  subst e1
  have hlt : i * m + j < L.length * m := by
    have : (i + 1) * m ≤ L.length * m := Nat.mul_le_mul_right _ hil
    rw [Nat.succ_mul] at this
    omega
  rw [h4 _ hlt]
  exact rws_get he L i j a hi hj
theorem OwR.wr {g c n : Nat} (h : OwR w base e m enc (.slice (some ⟨g, 0, none⟩) n c) L) (h0 : 0 < L.length) : ∀ i, w.frozen? ⟨g, i, none⟩ = false := by
  obtain ⟨A, c', hv, h1, h2, h3⟩ := G.own_at h
  injection hv with hv1 hv2 hv3
  obtain ⟨g', e1, _, e2, e3, h4, h5⟩ := h3 h0
  rw [← hv1] at e1
  injection e1 with e1
  injection e1 with e1
  subst e1
  exact h5
theorem OwR.put1 (he : ∀ a, (enc a).length = m) {g c n : Nat} (h : OwR w base e m enc (.slice (some ⟨g, 0, none⟩) n c) L) (hn : n = L.length) {i j : Nat} {a a' : α} (hi : L[i]? = some a) {x : Value} (hx : enc a' = (enc a).set j x) (hj : j < m) :
    ∃ w', w.setCell ⟨g, i * m + j, none⟩ x = w' ∧ OwR w' base e m enc (.slice (some ⟨g, 0, none⟩) n c) (L.set i a') ∧ Fr (fun k => k = g) w w' ∧ w'.heap.size = w.heap.size := by
  subst hn
  obtain ⟨h1, h2, h3⟩ := own_put h (i * m + j) x
  refine ⟨_, rfl, ?_, h2, h3⟩
  unfold OwR
  rw [List.length_set]
  have hil := (List.getElem?_eq_some_iff.1 hi).1
  have : (rws enc L).set (i * m + j) x = rws enc (L.set i a') := by
    apply List.ext_getElem?
    intro k
    have hm : 0 < m := by omega
    rw [List.getElem?_set]
    have hk : k = k / m * m + k % m := by rw [Nat.mul_comm]; exact (Nat.div_add_mod k m).symm
    have hkm := Nat.mod_lt k hm
    have hlt : i * m + j < (rws enc L).length := by
      rw [rws_length he]
      have : (i + 1) * m ≤ L.length * m := Nat.mul_le_mul_right _ hil
      rw [Nat.succ_mul] at this
      omega
    rcases Nat.lt_or_ge (k / m) L.length with hq | hq
    · obtain ⟨y, hy⟩ : ∃ y, L[k / m]? = some y := ⟨_, List.getElem?_eq_getElem hq⟩
      have e1 := rws_get he L (k / m) (k % m) y hy hkm
      rw [← hk] at e1
      have hs : (L.set i a')[k / m]? = some (if i = k / m then a' else y) := by
        rw [List.getElem?_set]
        by_cases e : i = k / m
        · rw [if_pos e, if_pos e, if_pos hil]
        · rw [if_neg e, if_neg e, hy]
      have e2 := rws_get he (L.set i a') (k / m) (k % m) _ hs hkm
      rw [← hk] at e2
      rw [e2]
      by_cases e : i = k / m
      · subst e
        have hya : y = a := by rw [hy] at hi; exact Option.some.inj hi
        subst hya
        rw [if_pos rfl, hx, List.getElem?_set, e1]
        by_cases ej : j = k % m
        · have : k / m * m + j = k := by omega
          rw [if_pos this, if_pos ej, if_pos hlt, if_pos (by rw [he]; omega)]
        · have : ¬ k / m * m + j = k := by omega
          rw [if_neg this, if_neg ej]
      · rw [if_neg e, e1]
        have : ¬ i * m + j = k := by
          intro hh
          have : k / m = i := by
            rw [← hh, Nat.mul_comm, Nat.mul_add_div hm, Nat.div_eq_of_lt hj, Nat.add_zero]
          exact e this.symm
        rw [if_neg this]
    · have hkl : L.length * m ≤ k := by
        have : L.length * m ≤ k / m * m := Nat.mul_le_mul_right _ hq
        omega
      have : ¬ i * m + j = k := by
        have : (i + 1) * m ≤ L.length * m := Nat.mul_le_mul_right _ hil
        rw [Nat.succ_mul] at this
        omega
      rw [if_neg this, List.getElem?_eq_none (by rw [rws_length he]; exact hkl), List.getElem?_eq_none (by rw [rws_length he, List.length_set]; exact hkl)]
  rw [← this]
  exact h1
theorem OwR.put3 (he : ∀ a, (enc a).length = 3) {g c n : Nat} (h : OwR w base e 3 enc (.slice (some ⟨g, 0, none⟩) n c) L) (hn : n = L.length) {i : Nat} (hi : i < L.length) (a : α) {v0 v1 v2 : Value} (hx : enc a = [v0, v1, v2]) :
    ∃ w', ((w.setCell ⟨g, i * 3, none⟩ v0).setCell ⟨g, i * 3 + 1, none⟩ v1).setCell ⟨g, i * 3 + 2, none⟩ v2 = w' ∧ OwR w' base e 3 enc (.slice (some ⟨g, 0, none⟩) n c) (L.set i a) ∧ Fr (fun k => k = g) w w' ∧ w'.heap.size = w.heap.size := by
  subst hn
  obtain ⟨h1, f1, s1⟩ := own_put h (i * 3) v0
  obtain ⟨h2, f2, s2⟩ := own_put h1 (i * 3 + 1) v1
  obtain ⟨h3, f3, s3⟩ := own_put h2 (i * 3 + 2) v2
  refine ⟨_, rfl, ?_, (f1.trans f2).trans f3, by omega⟩
  unfold OwR
  rw [List.length_set, ← rws_set he L i a hi, hx]
  exact h3
/-- a shorter beginning. -/
theorem OwR.pre (he : ∀ a, (enc a).length = m) {A : Option Addr} {n c k : Nat} (h : OwR w base e m enc (.slice A n c) L) (hn : n = L.length) (hk : k ≤ L.length) : OwR w base e m enc (.slice A k c) (L.take k) := by
  subst hn
  unfold OwR at h ⊢
  have hs : rws enc L = rws enc (L.take k) ++ rws enc (L.drop k) := by rw [← rws_app, List.take_append_drop]
  rw [hs] at h
  have hl : (L.take k).length = k := by rw [List.length_take]; omega
  rw [hl]
  exact G.own_pre h hk (by rw [rws_length he, hl])
end
/-- an append of one thing, in a plain region. -/
theorem wpList_push {α : Type} {enc : α → List Value} {w0 : World} {base m bytes : Nat} {v : Value} {L : List α} {t e : TypeId} {i : TypeInfo} {z : Value} {ops : Array Oper} {rest : List Oper} {o : Oper} {a : Act} {Q : Exit → Act → World → Prop} (hgd : o.guard = none) (s x : Operand)
    (ho : o.op = .call { callee := .builtin .append, args := #[s, x], argTypes := #[t, t] }) (hs : a.eval s = v) (hx : a.eval x = .slice (some ⟨w0.heap.size, 0, none⟩) 1 1)
    (ht : Try.prog.underlying t = some (.slice e)) (hi : Try.prog.info? e = some i) (hz : i.zero = some z) (hsize : i.size = m) (hby : i.bytes = bytes) (hzs : z.cells.size = m) (hsz : 0 < m)
    (ho' : OwR w0 base e m enc v L) (hb : base ≤ w0.heap.size) (y : α) (hl : ∀ a, (enc a).length = m) (h1 : ∀ u ∈ enc y, u.oneCell' = true) (hn : (L.length + 1) * bytes ≤ 140737488355328) (h63 : L.length + 1 ≤ maxLen)
    (hk : ∀ g cap w', OwR w' base e m enc (.slice (some ⟨g, 0, none⟩) (L.length + 1) cap) (L ++ [y]) → Fr (fun k => v.ownBlock = some k) w0 w' → (v.ownBlock = some g ∨ w0.heap.size < g) → wpList Try.prog ops Q rest (a.put o.dst (.slice (some ⟨g, 0, none⟩) (L.length + 1) cap)) w') :
    wpList Try.prog ops Q (o :: rest) a (w0.alloc (.cells (enc y).toArray e)) := by
  have hly := hl y
  refine wpList_append_lies _ hgd s x t ho base e i z m bytes ht hi hz hsize hby hzs hsz v L.length (rws enc L) hs (World.ownsRow.alloc ho' _) ⟨w0.heap.size, 0, none⟩ 1 1 (enc y) hx (by omega) ?_ h1 (by omega) h63 hn (by simp; omega) (w0.heap.size + 1) (by simp) ?_
  · have := World.news_of_block (heap_alloc_new w0 (.cells (enc y).toArray e))
    simpa using this
  · intro g cap w9 hown hgrow hat hlt
    have hrow : OwR w9 base e m enc (.slice (some ⟨g, 0, none⟩) (L.length + 1) cap) (L ++ [y]) := by
      unfold OwR
      rw [rws_app, List.length_append, List.length_singleton]
      have : rws enc [y] = enc y := by simp [rws]
      rw [this]
      exact hown
    refine hk g cap w9 hrow ?_ (by rcases hat with h | h; exact .inl h; right; omega)
    exact (Fr.refl _ _).alloc _ |>.trans (G.fr_row hgrow)
end Go.Proofs.Ytmdkokehomboaaa
