import Derived.Test.YtannniobeanhlaaGreatZObj
import Derived.Test.YtannniobeanhlaaGreatLift
import Derived.Deep.AppendLies
import Derived.Laws.OwnMore
import Derived.Laws.MakeOwn
import Derived.Lib.Hide
/- What serves every stage: boxes, rows of the call's own, appends onto them. -/
namespace Go.Proofs.YtannniobeanhlaaGreat.G
set_option linter.unusedSimpArgs false
set_option linter.unusedVariables false
set_option maxRecDepth 100000
open Go Go.RowKit
/-- a store into a cell of a block that is known whole. -/
theorem box_set {w : World} {b : Nat} {t : TypeId} {c : Array Value} (h : Blk w b t c) (i : Nat) (v : Value) (c' : Array Value) (hc : c.setIfInBounds i v = c') :
    ∃ w', w.setCell ⟨b, i, none⟩ v = w' ∧ Blk w' b t c' ∧ Fr (fun k => k = b) w w' ∧ w'.heap.size = w.heap.size := by
  refine ⟨_, rfl, ?_, ?_, ?_⟩
  · rw [setCell_obj h, hc]; exact setObj_at (lt_of_block h) _
  · rw [setCell_obj h]; exact Fr.setObj (F := fun k => k = b) (Fr.refl _ _) rfl _
  · rw [setCell_obj h, setObj_size]
theorem below_on {W0 w w' : World} (h : Below W0.heap.size W0 w) (b : Below w.heap.size w w') : Below W0.heap.size W0 w' := h.trans (b.mono h.size)
section
variable {w w' : World} {base size n : Nat} {e : TypeId} {v : Value} {xs : List Value}
theorem own_fr {F : Nat → Prop} (h : w.ownsRow base e size v n xs) (hf : Fr F w w') (hF : ∀ g, v.ownBlock = some g → ¬ F g) : w'.ownsRow base e size v n xs := by
  refine ⟨h.1, ?_⟩
  rcases h.2 with h0 | ⟨g, cap, cur, hv, hb, hg, hr⟩
  · exact .inl h0
  · exact .inr ⟨g, cap, cur, hv, hb, (hf.block g (lt_of_block hg) (hF g (by rw [hv]; rfl))).trans hg, hr⟩
theorem own_below (h : w.ownsRow base e size v n xs) (hb : Below w.heap.size w w') : w'.ownsRow base e size v n xs := own_fr (F := fun _ => False) h (Fr.of_below hb) (fun _ _ => id)
theorem own_base (h : w.ownsRow base e size v n xs) : ∀ g, v.ownBlock = some g → base ≤ g := by
  intro g hg
  rcases h.2 with ⟨rfl, _⟩ | ⟨g', cap, cur, rfl, hb, _⟩
  · cases hg
  · have : g' = g := by simpa [Value.ownBlock] using hg
    omega
theorem own_lt (h : w.ownsRow base e size v n xs) : ∀ g, v.ownBlock = some g → g < w.heap.size := by
  intro g hg
  rcases h.2 with ⟨rfl, _⟩ | ⟨g', cap, cur, rfl, hb, hg', _⟩
  · cases hg
  · have : g' = g := by simpa [Value.ownBlock] using hg
    have := lt_of_block hg'
    omega
/-- a row as a slice: where it is, what its cells read. -/
theorem own_at (h : w.ownsRow base e size v n xs) : ∃ A c, v = .slice A n c ∧ n ≤ c ∧ c ≤ maxLen ∧ (0 < n → ∃ g, A = some ⟨g, 0, none⟩ ∧ v.ownBlock = some g ∧ base ≤ g ∧ g < w.heap.size ∧ (∀ i, i < n * size → w.cell? ⟨g, i, none⟩ = xs[i]?) ∧ ∀ i, w.frozen? ⟨g, i, none⟩ = false) := by
  rcases h.2 with ⟨rfl, h0⟩ | ⟨g, cap, cur, rfl, hb, hg, hnc, hcm, hcs, htake⟩
  · exact ⟨none, 0, by rw [h0], by omega, by unfold maxLen; omega, fun h => absurd h (by omega)⟩
  · exact ⟨_, _, rfl, hnc, hcm, fun h0 => ⟨g, rfl, rfl, hb, lt_of_block hg, fun i hi => h.cellAt i hi, fun i => blk_free hg⟩⟩
/-- a shorter beginning of a row. -/
theorem own_pre {A : Option Addr} {m c : Nat} {ys : List Value} (h : w.ownsRow base e size (.slice A n c) n (xs ++ ys)) (hm : m ≤ n) (hx : xs.length = m * size) : w.ownsRow base e size (.slice A m c) m xs := by
  refine ⟨hx, ?_⟩
  rcases h.2 with ⟨hv, h0⟩ | ⟨g, cap, cur, hv, hb, hg, hnc, hcm, hcs, htake⟩
  · injection hv with h1 h2 h3
    subst h1 h3
    exact .inl ⟨by rw [show m = 0 by omega], by omega⟩
  · injection hv with h1 h2 h3
    subst h1 h3
    refine .inr ⟨g, _, cur, rfl, hb, hg, by omega, hcm, hcs, ?_⟩
    have hms : m * size ≤ n * size := Nat.mul_le_mul_right _ hm
    have e1 := congrArg (List.take (m * size)) htake
    rw [List.take_take, Nat.min_eq_left hms] at e1
    rw [e1, List.take_append_of_le_length (by omega), List.take_of_length_le (by omega)]
end
theorem fr_row {w w' : World} {row : Option Nat} (hg : w.grownBy w' row) : Fr (fun k => row = some k) w w' := ⟨hg.os, hg.tape, hg.output, hg.size, fun k hk hF => hg.block k hk (fun e => hF e.symm)⟩
section
variable {w0 : World} {base n size bytes : Nat} {v : Value} {xs : List Value} {t e : TypeId} {i : TypeInfo} {z : Value}
end
/-- make of elements of one cell. -/
theorem make_one {P : Program} {t e : TypeId} {i : TypeInfo} {z : Value} {B : Nat} (ht : P.underlying t = some (.slice e)) (hi : P.info? e = some i) (hz : i.zero = some z) (hc : z.cells = #[z]) (hs : i.size = 1) (hb : i.bytes = B) (n : Nat) (hn : B * n ≤ 281474976710656) (hn2 : n ≤ 281474976710656) (w : World) :
    (Instr.makeSlice t (.int .i64 (n : Int)) (.int .i64 (n : Int))).run P w = .ok (.slice (some ⟨w.heap.size, 0, none⟩) n n) (w.alloc (.cells (List.replicate n z).toArray e)) := by
  have := run_make w t e i z ht hi hz .i64 .i64 (n : Int) (n : Int) (by omega) (by omega) (by rw [hb]; have h2 : ((B * n : Nat) : Int) = (B : Int) * (n : Int) := Int.natCast_mul B n; omega) (by omega)
  rw [this, hs]
  simp only [Int.toNat_natCast, Nat.mul_one]
  have e1 : madeCells z.cells n = (List.replicate n z).toArray := by
    apply Array.ext'
    rw [hc, toList_madeCells_one]
  rw [e1]
end Go.Proofs.YtannniobeanhlaaGreat.G
/- Rows of things that the call owns: read, stored into. -/
namespace Go.Proofs.YtannniobeanhlaaGreat
set_option linter.unusedSimpArgs false
set_option linter.unusedVariables false
set_option maxRecDepth 100000
open Go Go.RowKit
/-- a row of things of m cells each, that the call owns. -/
def OwR {α : Type} (w : World) (base : Nat) (e : TypeId) (m : Nat) (enc : α → List Value) (v : Value) (L : List α) : Prop := w.ownsRow base e m v L.length (rws enc L)
section
variable {α : Type} {w w' : World} {base m : Nat} {e : TypeId} {enc : α → List Value} {v : Value} {L : List α}
theorem OwR.nil : OwR w base e m enc (.slice none 0 0) ([] : List α) := World.ownsRow_nil _ _ _ _
theorem OwR.fr {F : Nat → Prop} (h : OwR w base e m enc v L) (hf : Fr F w w') (hF : ∀ g, v.ownBlock = some g → ¬ F g) : OwR w' base e m enc v L := G.own_fr h hf hF
theorem OwR.keep (h : OwR w base e m enc v L) (hb : Below w.heap.size w w') : OwR w' base e m enc v L := G.own_below h hb
theorem OwR.base_le (h : OwR w base e m enc v L) : ∀ g, v.ownBlock = some g → base ≤ g := G.own_base h
theorem OwR.lt (h : OwR w base e m enc v L) : ∀ g, v.ownBlock = some g → g < w.heap.size := G.own_lt h
theorem OwR.slice (h : OwR w base e m enc v L) : ∃ A c, v = .slice A L.length c ∧ L.length ≤ c ∧ c ≤ maxLen ∧ (0 < L.length → ∃ g, A = some ⟨g, 0, none⟩ ∧ base ≤ g ∧ g < w.heap.size) := by
  obtain ⟨A, c, hv, h1, h2, h3⟩ := G.own_at h
  exact ⟨A, c, hv, h1, h2, fun h0 => by obtain ⟨g, e1, _, e2, e3, _⟩ := h3 h0; exact ⟨g, e1, e2, e3⟩⟩
theorem OwR.cell (he : ∀ a, (enc a).length = m) {g c n : Nat} (h : OwR w base e m enc (.slice (some ⟨g, 0, none⟩) n c) L) {i : Nat} {a : α} (hi : L[i]? = some a) {j : Nat} (hj : j < m) : w.cell? ⟨g, i * m + j, none⟩ = (enc a)[j]? := by
  have hil := (List.getElem?_eq_some_iff.1 hi).1
  obtain ⟨A, c', hv, h1, h2, h3⟩ := G.own_at h
  injection hv with hv1 hv2 hv3
  obtain ⟨g', e1, _, e2, e3, h4, h5⟩ := h3 (by omega)
  rw [← hv1] at e1
  injection e1 with e1
  injection e1 with e1
  subst e1
  have hlt : i * m + j < L.length * m := by
    have : (i + 1) * m ≤ L.length * m := Nat.mul_le_mul_right _ hil
    rw [Nat.succ_mul] at this
    omega
  rw [h4 _ hlt]
  exact rws_get he L i j a hi hj
theorem OwR.wr {g c n : Nat} (h : OwR w base e m enc (.slice (some ⟨g, 0, none⟩) n c) L) (h0 : 0 < L.length) : ∀ i, w.frozen? ⟨g, i, none⟩ = false := by
  obtain ⟨A, c', hv, h1, h2, h3⟩ := G.own_at h
  injection hv with hv1 hv2 hv3
  obtain ⟨g', e1, _, e2, e3, h4, h5⟩ := h3 h0
  rw [← hv1] at e1
  injection e1 with e1
  injection e1 with e1
  subst e1
  exact h5
/-- a shorter beginning. -/
theorem OwR.pre (he : ∀ a, (enc a).length = m) {A : Option Addr} {n c k : Nat} (h : OwR w base e m enc (.slice A n c) L) (hn : n = L.length) (hk : k ≤ L.length) : OwR w base e m enc (.slice A k c) (L.take k) := by
  subst hn
  unfold OwR at h ⊢
  have hs : rws enc L = rws enc (L.take k) ++ rws enc (L.drop k) := by rw [← rws_app, List.take_append_drop]
  rw [hs] at h
  have hl : (L.take k).length = k := by rw [List.length_take]; omega
  rw [hl]
  exact G.own_pre h hk (by rw [rws_length he, hl])
end
end Go.Proofs.YtannniobeanhlaaGreat
