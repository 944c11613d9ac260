import Derived.Test.YtnpiimaapholiaaZObj
import Derived.Test.YtnpiimaapholiaaLift
import Derived.Deep.AppendLies
import Derived.Laws.OwnMore
import Derived.Laws.MakeOwn
import Derived.Lib.Hide
/- What serves every stage: boxes, rows of the call's own, appends onto them. -/
namespace Go.Proofs.Ytnpiimaapholiaa.G
set_option linter.unusedSimpArgs false
set_option linter.unusedVariables false
open Go Go.RowKit
/-- a store into a cell of a block that is known whole. -/
theorem box_set {w : World} {b : Nat} {t : TypeId} {c : Array Value} (h : Blk w b t c) (i : Nat) (v : Value) (c' : Array Value) (hc : c.setIfInBounds i v = c') :
    ∃ w', w.setCell ⟨b, i, none⟩ v = w' ∧ Blk w' b t c' ∧ Fr (fun k => k = b) w w' ∧ w'.heap.size = w.heap.size := by
  refine ⟨_, rfl, ?_, ?_, ?_⟩
  · rw [setCell_obj h, hc]; exact setObj_at (lt_of_block h) _
  · rw [setCell_obj h]; exact Fr.setObj (F := fun k => k = b) (Fr.refl _ _) rfl _
  · rw [setCell_obj h, setObj_size]
theorem two_boxes (w : World) (X Y : Array Value) (t s : TypeId) : Blk ((w.alloc (.cells X t)).alloc (.cells Y s)).drew w.heap.size t X ∧ Blk ((w.alloc (.cells X t)).alloc (.cells Y s)).drew (w.heap.size + 1) s Y ∧ Below w.heap.size w ((w.alloc (.cells X t)).alloc (.cells Y s)).drew := by
  refine ⟨(Blk.alloc (heap_alloc_new w _) _).drew, ?_, ?_⟩
  · have := heap_alloc_new (w.alloc (.cells X t)) (.cells Y s)
    rw [show (w.alloc (.cells X t)).heap.size = w.heap.size + 1 from by simp] at this
    exact Blk.drew this
  · exact below_draws (((Below.refl _ _).alloc (Nat.le_refl _) _).alloc (by simp) _) 1
theorem below_on {W0 w w' : World} (h : Below W0.heap.size W0 w) (b : Below w.heap.size w w') : Below W0.heap.size W0 w' := h.trans (b.mono h.size)
section
variable {w w' : World} {base size n : Nat} {e : TypeId} {v : Value} {xs : List Value}
theorem own_fr {F : Nat → Prop} (h : w.ownsRow base e size v n xs) (hf : Fr F w w') (hF : ∀ g, v.ownBlock = some g → ¬ F g) : w'.ownsRow base e size v n xs := by
  refine ⟨h.1, ?_⟩
  rcases h.2 with h0 | ⟨g, cap, cur, hv, hb, hg, hr⟩
  · exact .inl h0
  · exact .inr ⟨g, cap, cur, hv, hb, (hf.block g (lt_of_block hg) (hF g (by rw [hv]; rfl))).trans hg, hr⟩
theorem own_below (h : w.ownsRow base e size v n xs) (hb : Below w.heap.size w w') : w'.ownsRow base e size v n xs := own_fr (F := fun _ => False) h (Fr.of_below hb) (fun _ _ => id)
theorem own_base (h : w.ownsRow base e size v n xs) : ∀ g, v.ownBlock = some g → base ≤ g := by
  intro g hg
  rcases h.2 with ⟨rfl, _⟩ | ⟨g', cap, cur, rfl, hb, _⟩
  · cases hg
  · have : g' = g := by simpa [Value.ownBlock] using hg
    omega
theorem own_lt (h : w.ownsRow base e size v n xs) : ∀ g, v.ownBlock = some g → g < w.heap.size := by
  intro g hg
  rcases h.2 with ⟨rfl, _⟩ | ⟨g', cap, cur, rfl, hb, hg', _⟩
  · cases hg
  · have : g' = g := by simpa [Value.ownBlock] using hg
    have := lt_of_block hg'
    omega
theorem own_more {base' : Nat} (h : w.ownsRow base e size v n xs) (hb : base' ≤ base) : w.ownsRow base' e size v n xs := by
  refine ⟨h.1, ?_⟩
  rcases h.2 with h0 | ⟨g, cap, cur, hv, hg, hr⟩
  · exact .inl h0
  · exact .inr ⟨g, cap, cur, hv, Nat.le_trans hb hg, hr⟩
/-- a row as a slice: where it is, what its cells read. -/
theorem own_at (h : w.ownsRow base e size v n xs) : ∃ A c, v = .slice A n c ∧ n ≤ c ∧ c ≤ maxLen ∧ (0 < n → ∃ g, A = some ⟨g, 0, none⟩ ∧ v.ownBlock = some g ∧ base ≤ g ∧ g < w.heap.size ∧ (∀ i, i < n * size → w.cell? ⟨g, i, none⟩ = xs[i]?) ∧ ∀ i, w.frozen? ⟨g, i, none⟩ = false) := by
  rcases h.2 with ⟨rfl, h0⟩ | ⟨g, cap, cur, rfl, hb, hg, hnc, hcm, hcs, htake⟩
  · exact ⟨none, 0, by rw [h0], by omega, by unfold maxLen; omega, fun h => absurd h (by omega)⟩
  · exact ⟨_, _, rfl, hnc, hcm, fun h0 => ⟨g, rfl, rfl, hb, lt_of_block hg, fun i hi => h.cellAt i hi, fun i => blk_free hg⟩⟩
/-- a shorter beginning of a row. -/
theorem own_pre {A : Option Addr} {m c : Nat} {ys : List Value} (h : w.ownsRow base e size (.slice A n c) n (xs ++ ys)) (hm : m ≤ n) (hx : xs.length = m * size) : w.ownsRow base e size (.slice A m c) m xs := by
  refine ⟨hx, ?_⟩
  rcases h.2 with ⟨hv, h0⟩ | ⟨g, cap, cur, hv, hb, hg, hnc, hcm, hcs, htake⟩
  · injection hv with h1 h2 h3
    subst h1 h3
    exact .inl ⟨by rw [show m = 0 by omega], by omega⟩
  · injection hv with h1 h2 h3
    subst h1 h3
    refine .inr ⟨g, _, cur, rfl, hb, hg, by omega, hcm, hcs, ?_⟩
    have hms : m * size ≤ n * size := Nat.mul_le_mul_right _ hm
    have e1 := congrArg (List.take (m * size)) htake
    rw [List.take_take, Nat.min_eq_left hms] at e1
    rw [e1, List.take_append_of_le_length (by omega), List.take_of_length_le (by omega)]
end
theorem fr_row {w w' : World} {row : Option Nat} (hg : w.grownBy w' row) : Fr (fun k => row = some k) w w' := ⟨hg.os, hg.tape, hg.output, hg.size, fun k hk hF => hg.block k hk (fun e => hF e.symm)⟩
section
variable {w0 : World} {base n size bytes : Nat} {v : Value} {xs : List Value} {t e : TypeId} {i : TypeInfo} {z : Value}
/-- append of one element, that lies in a block of its own. -/
theorem wpList_push {ops : Array Oper} {rest : List Oper} {o : Oper} {a : Act} {Q : Exit → Act → World → Prop} (hgd : o.guard = none) (s x : Operand)
    (ho : o.op = .call { callee := .builtin .append, args := #[s, x], argTypes := #[t, t] }) (hs : a.eval s = v) (hx : a.eval x = .slice (some ⟨w0.heap.size, 0, none⟩) 1 1)
    (ht : Try.prog.underlying t = some (.slice e)) (hi : Try.prog.info? e = some i) (hz : i.zero = some z) (hsize : i.size = size) (hby : i.bytes = bytes) (hzs : z.cells.size = size) (hsz : 0 < size)
    (ho' : w0.ownsRow base e size v n xs) (hb : base ≤ w0.heap.size) (news : List Value) (hl : news.length = size) (h1 : ∀ u ∈ news, u.oneCell' = true) (hn : (n + 1) * bytes ≤ 140737488355328) (h63 : n + 1 ≤ maxLen)
    (hk : ∀ g cap w', w'.ownsRow base e size (.slice (some ⟨g, 0, none⟩) (n + 1) cap) (n + 1) (xs ++ news) → Fr (fun k => v.ownBlock = some k) w0 w' → (v.ownBlock = some g ∨ w0.heap.size < g) → wpList Try.prog ops Q rest (a.put o.dst (.slice (some ⟨g, 0, none⟩) (n + 1) cap)) w') : wpList Try.prog ops Q (o :: rest) a (w0.alloc (.cells news.toArray e)) := by
  refine wpList_append_lies _ hgd s x t ho base e i z size bytes ht hi hz hsize hby hzs hsz v n xs hs (ho'.alloc _) ⟨w0.heap.size, 0, none⟩ 1 1 news hx (by omega) ?_ h1 (by omega) h63 hn (by simp; omega) (w0.heap.size + 1) (by simp) ?_
  · have := World.news_of_block (heap_alloc_new w0 (.cells news.toArray e))
    simpa using this
  · intro g cap w9 hown hgrow hat hlt
    refine hk g cap w9 hown ?_ (by rcases hat with h | h; exact .inl h; right; omega)
    exact (Fr.refl _ _).alloc _ |>.trans (fr_row hgrow)
theorem step_push {ops : Array Oper} {o : Oper} {a : Act} {K : Act → World → Prop} {Q : Exit → Act → World → Prop} {E : Prop} (hgd : o.guard = none) (s x : Operand)
    (ho : o.op = .call { callee := .builtin .append, args := #[s, x], argTypes := #[t, t] }) (hs : a.eval s = v) (hx : a.eval x = .slice (some ⟨w0.heap.size, 0, none⟩) 1 1)
    (ht : Try.prog.underlying t = some (.slice e)) (hi : Try.prog.info? e = some i) (hz : i.zero = some z) (hsize : i.size = size) (hby : i.bytes = bytes) (hzs : z.cells.size = size) (hsz : 0 < size)
    (ho' : w0.ownsRow base e size v n xs) (hb : base ≤ w0.heap.size) (news : List Value) (hl : news.length = size) (h1 : ∀ u ∈ news, u.oneCell' = true) (hn : (n + 1) * bytes ≤ 140737488355328) (h63 : n + 1 ≤ maxLen)
    (hk : ∀ g cap w', w'.ownsRow base e size (.slice (some ⟨g, 0, none⟩) (n + 1) cap) (n + 1) (xs ++ news) → Fr (fun k => v.ownBlock = some k) w0 w' → (v.ownBlock = some g ∨ w0.heap.size < g) → K (a.put o.dst (.slice (some ⟨g, 0, none⟩) (n + 1) cap)) w') : if Region.wanted o (yielded ops a.tmps) = true then Oper.wp Try.prog o a (w0.alloc (.cells news.toArray e)) K Q else E := by
  refine step_append_lies _ hgd s x t ho base e i z size bytes ht hi hz hsize hby hzs hsz v n xs hs (ho'.alloc _) ⟨w0.heap.size, 0, none⟩ 1 1 news hx (by omega) ?_ h1 (by omega) h63 hn (by simp; omega) (w0.heap.size + 1) (by simp) ?_
  · have := World.news_of_block (heap_alloc_new w0 (.cells news.toArray e))
    simpa using this
  · intro g cap w9 hown hgrow hat hlt
    refine hk g cap w9 hown ?_ (by rcases hat with h | h; exact .inl h; right; omega)
    exact (Fr.refl _ _).alloc _ |>.trans (fr_row hgrow)
end
/-- make of elements of one cell. -/
theorem make_one {P : Program} {t e : TypeId} {i : TypeInfo} {z : Value} {B : Nat} (ht : P.underlying t = some (.slice e)) (hi : P.info? e = some i) (hz : i.zero = some z) (hc : z.cells = #[z]) (hs : i.size = 1) (hb : i.bytes = B) (n : Nat) (hn : B * n ≤ 281474976710656) (hn2 : n ≤ 281474976710656) (w : World) :
    (Instr.makeSlice t (.int .i64 (n : Int)) (.int .i64 (n : Int))).run P w = .ok (.slice (some ⟨w.heap.size, 0, none⟩) n n) (w.alloc (.cells (List.replicate n z).toArray e)) := by
  have := run_make w t e i z ht hi hz .i64 .i64 (n : Int) (n : Int) (by omega) (by omega) (by rw [hb]; have h2 : ((B * n : Nat) : Int) = (B : Int) * (n : Int) := Int.natCast_mul B n; omega) (by omega)
  rw [this, hs]
  simp only [Int.toNat_natCast, Nat.mul_one]
  have e1 : madeCells z.cells n = (List.replicate n z).toArray := by
    apply Array.ext'
    rw [hc, toList_madeCells_one]
  rw [e1]
theorem i64_mask1 (n : Int) : bits .and .i64 n 1 = n % 2 := by
  have hm : (BitVec.ofInt 64 1).toNat = 2 ^ 1 - 1 := by decide
  have key : (BitVec.ofInt 64 n &&& BitVec.ofInt 64 1).toNat = (n % ((2 ^ 64 : Nat) : Int)).toNat % 2 ^ 1 := by
    rw [BitVec.toNat_and, BitVec.toNat_ofInt, hm, Nat.and_two_pow_sub_one_eq_mod]
  show IntKind.i64.wrap ((BitVec.ofInt 64 n &&& BitVec.ofInt 64 1).toNat : Nat) = n % 2
  rw [key, IntKind.wrap_i64]
  omega
end Go.Proofs.Ytnpiimaapholiaa.G
/- Rows of things that the call owns: read, stored into. -/
namespace Go.Proofs.Ytnpiimaapholiaa
set_option linter.unusedSimpArgs false
set_option linter.unusedVariables false
open Go Go.RowKit
theorem own_put {w : World} {base size g n c : Nat} {e : TypeId} {xs : List Value} (h : w.ownsRow base e size (.slice (some ⟨g, 0, none⟩) n c) n xs) (i : Nat) (v : Value) :
    (w.setCell ⟨g, i, none⟩ v).ownsRow base e size (.slice (some ⟨g, 0, none⟩) n c) n (xs.set i v) ∧ Fr (fun k => k = g) w (w.setCell ⟨g, i, none⟩ v) ∧ (w.setCell ⟨g, i, none⟩ v).heap.size = w.heap.size := by
  rcases h.2 with ⟨hv, _⟩ | ⟨g', cap, cur, hv, hb, hg, hnc, hcm, hcs, htake⟩
  · cases hv
  · injection hv with h1 h2 h3
    injection h1 with h1
    injection h1 with h1
    subst h1 h3
    rw [setCell_obj hg]
    refine ⟨⟨by rw [List.length_set]; exact h.1, .inr ⟨g, c, cur.setIfInBounds i v, rfl, hb, setObj_at (lt_of_block hg) _, hnc, hcm, by rw [Array.size_setIfInBounds]; exact hcs, ?_⟩⟩, Fr.setObj (F := fun k => k = g) (Fr.refl _ _) rfl _, setObj_size _ _ _⟩
    rw [Array.toList_setIfInBounds, List.take_set, htake]
/-- a row of things of m cells each, that the call owns. -/
def OwR {α : Type} (w : World) (base : Nat) (e : TypeId) (m : Nat) (enc : α → List Value) (v : Value) (L : List α) : Prop := w.ownsRow base e m v L.length (rws enc L)
section
variable {α : Type} {w w' : World} {base m : Nat} {e : TypeId} {enc : α → List Value} {v : Value} {L : List α}
theorem OwR.nil : OwR w base e m enc (.slice none 0 0) ([] : List α) := World.ownsRow_nil _ _ _ _
theorem OwR.fr {F : Nat → Prop} (h : OwR w base e m enc v L) (hf : Fr F w w') (hF : ∀ g, v.ownBlock = some g → ¬ F g) : OwR w' base e m enc v L := G.own_fr h hf hF
theorem OwR.keep (h : OwR w base e m enc v L) (hb : Below w.heap.size w w') : OwR w' base e m enc v L := G.own_below h hb
theorem OwR.base_le (h : OwR w base e m enc v L) : ∀ g, v.ownBlock = some g → base ≤ g := G.own_base h
theorem OwR.lt (h : OwR w base e m enc v L) : ∀ g, v.ownBlock = some g → g < w.heap.size := G.own_lt h
theorem OwR.slice (h : OwR w base e m enc v L) : ∃ A c, v = .slice A L.length c ∧ L.length ≤ c ∧ c ≤ maxLen ∧ (0 < L.length → ∃ g, A = some ⟨g, 0, none⟩ ∧ base ≤ g ∧ g < w.heap.size) := by
  obtain ⟨A, c, hv, h1, h2, h3⟩ := G.own_at h
  exact ⟨A, c, hv, h1, h2, fun h0 => by obtain ⟨g, e1, _, e2, e3, _⟩ := h3 h0; exact ⟨g, e1, e2, e3⟩⟩
theorem OwR.cell (he : ∀ a, (enc a).length = m) {g c n : Nat} (h : OwR w base e m enc (.slice (some ⟨g, 0, none⟩) n c) L) {i : Nat} {a : α} (hi : L[i]? = some a) {j : Nat} (hj : j < m) : w.cell? ⟨g, i * m + j, none⟩ = (enc a)[j]? := by
  have hil := (List.getElem?_eq_some_iff.1 hi).1
  obtain ⟨A, c', hv, h1, h2, h3⟩ := G.own_at h
  injection hv with hv1 hv2 hv3
  obtain ⟨g', e1, _, e2, e3, h4, h5⟩ := h3 (by omega)
  rw [← hv1] at e1
  injection e1 with e1
  injection e1 with e1
  subst e1
  have hlt : i * m + j < L.length * m := by
    have : (i + 1) * m ≤ L.length * m := Nat.mul_le_mul_right _ hil
    rw [Nat.succ_mul] at this
    omega
  rw [h4 _ hlt]
  exact rws_get he L i j a hi hj
theorem OwR.wr {g c n : Nat} (h : OwR w base e m enc (.slice (some ⟨g, 0, none⟩) n c) L) (h0 : 0 < L.length) : ∀ i, w.frozen? ⟨g, i, none⟩ = false := by
  obtain ⟨A, c', hv, h1, h2, h3⟩ := G.own_at h
  injection hv with hv1 hv2 hv3
  obtain ⟨g', e1, _, e2, e3, h4, h5⟩ := h3 h0
  rw [← hv1] at e1
  injection e1 with e1
  injection e1 with e1
  subst e1
  exact h5
theorem OwR.put1 (he : ∀ a, (enc a).length = m) {g c n : Nat} (h : OwR w base e m enc (.slice (some ⟨g, 0, none⟩) n c) L) (hn : n = L.length) {i j : Nat} {a a' : α} (hi : L[i]? = some a) {x : Value} (hx : enc a' = (enc a).set j x) (hj : j < m) :
    ∃ w', w.setCell ⟨g, i * m + j, none⟩ x = w' ∧ OwR w' base e m enc (.slice (some ⟨g, 0, none⟩) n c) (L.set i a') ∧ Fr (fun k => k = g) w w' ∧ w'.heap.size = w.heap.size := by
  subst hn
  obtain ⟨h1, h2, h3⟩ := own_put h (i * m + j) x
  refine ⟨_, rfl, ?_, h2, h3⟩
  unfold OwR
  rw [List.length_set]
  have hil := (List.getElem?_eq_some_iff.1 hi).1
  have : (rws enc L).set (i * m + j) x = rws enc (L.set i a') := by
    apply List.ext_getElem?
    intro k
    have hm : 0 < m := by omega
    rw [List.getElem?_set]
    have hk : k = k / m * m + k % m := by rw [Nat.mul_comm]; exact (Nat.div_add_mod k m).symm
    have hkm := Nat.mod_lt k hm
    have hlt : i * m + j < (rws enc L).length := by
      rw [rws_length he]
      have : (i + 1) * m ≤ L.length * m := Nat.mul_le_mul_right _ hil
      rw [Nat.succ_mul] at this
      omega
    rcases Nat.lt_or_ge (k / m) L.length with hq | hq
    · obtain ⟨y, hy⟩ : ∃ y, L[k / m]? = some y := ⟨_, List.getElem?_eq_getElem hq⟩
      have e1 := rws_get he L (k / m) (k % m) y hy hkm
      rw [← hk] at e1
      have hs : (L.set i a')[k / m]? = some (if i = k / m then a' else y) := by
        rw [List.getElem?_set]
        by_cases e : i = k / m
        · rw [if_pos e, if_pos e, if_pos hil]
        · rw [if_neg e, if_neg e, hy]
      have e2 := rws_get he (L.set i a') (k / m) (k % m) _ hs hkm
      rw [← hk] at e2
      rw [e2]
      by_cases e : i = k / m
      · subst e
        have hya : y = a := by rw [hy] at hi; exact Option.some.inj hi
        subst hya
        rw [if_pos rfl, hx, List.getElem?_set, e1]
        by_cases ej : j = k % m
        · have : k / m * m + j = k := by omega
          rw [if_pos this, if_pos ej, if_pos hlt, if_pos (by rw [he]; omega)]
        · have : ¬ k / m * m + j = k := by omega
          rw [if_neg this, if_neg ej]
      · rw [if_neg e, e1]
        have : ¬ i * m + j = k := by
          intro hh
          have : k / m = i := by
            rw [← hh, Nat.mul_comm, Nat.mul_add_div hm, Nat.div_eq_of_lt hj, Nat.add_zero]
          exact e this.symm
        rw [if_neg this]
    · have hkl : L.length * m ≤ k := by
        have : L.length * m ≤ k / m * m := Nat.mul_le_mul_right _ hq
        omega
      have : ¬ i * m + j = k := by
        have : (i + 1) * m ≤ L.length * m := Nat.mul_le_mul_right _ hil
        rw [Nat.succ_mul] at this
        omega
      rw [if_neg this, List.getElem?_eq_none (by rw [rws_length he]; exact hkl), List.getElem?_eq_none (by rw [rws_length he, List.length_set]; exact hkl)]
  rw [← this]
  exact h1
theorem OwR.put3 (he : ∀ a, (enc a).length = 3) {g c n : Nat} (h : OwR w base e 3 enc (.slice (some ⟨g, 0, none⟩) n c) L) (hn : n = L.length) {i : Nat} (hi : i < L.length) (a : α) {v0 v1 v2 : Value} (hx : enc a = [v0, v1, v2]) :
    ∃ w', ((w.setCell ⟨g, i * 3, none⟩ v0).setCell ⟨g, i * 3 + 1, none⟩ v1).setCell ⟨g, i * 3 + 2, none⟩ v2 = w' ∧ OwR w' base e 3 enc (.slice (some ⟨g, 0, none⟩) n c) (L.set i a) ∧ Fr (fun k => k = g) w w' ∧ w'.heap.size = w.heap.size := by
  subst hn
  obtain ⟨h1, f1, s1⟩ := own_put h (i * 3) v0
  obtain ⟨h2, f2, s2⟩ := own_put h1 (i * 3 + 1) v1
  obtain ⟨h3, f3, s3⟩ := own_put h2 (i * 3 + 2) v2
  refine ⟨_, rfl, ?_, (f1.trans f2).trans f3, by omega⟩
  unfold OwR
  rw [List.length_set, ← rws_set he L i a hi, hx]
  exact h3
/-- a shorter beginning. -/
theorem OwR.pre (he : ∀ a, (enc a).length = m) {A : Option Addr} {n c k : Nat} (h : OwR w base e m enc (.slice A n c) L) (hn : n = L.length) (hk : k ≤ L.length) : OwR w base e m enc (.slice A k c) (L.take k) := by
  subst hn
  unfold OwR at h ⊢
  have hs : rws enc L = rws enc (L.take k) ++ rws enc (L.drop k) := by rw [← rws_app, List.take_append_drop]
  rw [hs] at h
  have hl : (L.take k).length = k := by rw [List.length_take]; omega
  rw [hl]
  exact G.own_pre h hk (by rw [rws_length he, hl])
end
/-- an append of one thing, in a plain region. -/
theorem wpList_push {α : Type} {enc : α → List Value} {w0 : World} {base m bytes : Nat} {v : Value} {L : List α} {t e : TypeId} {i : TypeInfo} {z : Value} {ops : Array Oper} {rest : List Oper} {o : Oper} {a : Act} {Q : Exit → Act → World → Prop} (hgd : o.guard = none) (s x : Operand)
    (ho : o.op = .call { callee := .builtin .append, args := #[s, x], argTypes := #[t, t] }) (hs : a.eval s = v) (hx : a.eval x = .slice (some ⟨w0.heap.size, 0, none⟩) 1 1)
    (ht : Try.prog.underlying t = some (.slice e)) (hi : Try.prog.info? e = some i) (hz : i.zero = some z) (hsize : i.size = m) (hby : i.bytes = bytes) (hzs : z.cells.size = m) (hsz : 0 < m)
    (ho' : OwR w0 base e m enc v L) (hb : base ≤ w0.heap.size) (y : α) (hl : ∀ a, (enc a).length = m) (h1 : ∀ u ∈ enc y, u.oneCell' = true) (hn : (L.length + 1) * bytes ≤ 140737488355328) (h63 : L.length + 1 ≤ maxLen)
    (hk : ∀ g cap w', OwR w' base e m enc (.slice (some ⟨g, 0, none⟩) (L.length + 1) cap) (L ++ [y]) → Fr (fun k => v.ownBlock = some k) w0 w' → (v.ownBlock = some g ∨ w0.heap.size < g) → wpList Try.prog ops Q rest (a.put o.dst (.slice (some ⟨g, 0, none⟩) (L.length + 1) cap)) w') :
    wpList Try.prog ops Q (o :: rest) a (w0.alloc (.cells (enc y).toArray e)) := by
  have hly := hl y
  refine wpList_append_lies _ hgd s x t ho base e i z m bytes ht hi hz hsize hby hzs hsz v L.length (rws enc L) hs (World.ownsRow.alloc ho' _) ⟨w0.heap.size, 0, none⟩ 1 1 (enc y) hx (by omega) ?_ h1 (by omega) h63 hn (by simp; omega) (w0.heap.size + 1) (by simp) ?_
  · have := World.news_of_block (heap_alloc_new w0 (.cells (enc y).toArray e))
    simpa using this
  · intro g cap w9 hown hgrow hat hlt
    have hrow : OwR w9 base e m enc (.slice (some ⟨g, 0, none⟩) (L.length + 1) cap) (L ++ [y]) := by
      unfold OwR
      rw [rws_app, List.length_append, List.length_singleton]
      have : rws enc [y] = enc y := by simp [rws]
      rw [this]
      exact hown
    refine hk g cap w9 hrow ?_ (by rcases hat with h | h; exact .inl h; right; omega)
    exact (Fr.refl _ _).alloc _ |>.trans (G.fr_row hgrow)
end Go.Proofs.Ytnpiimaapholiaa
