/- Arguments that are slices of structs of one-cell fields, as lists; arrays of three, and two of three. -/
import Derived.Test.YtmdkokehomboaaaRowF
import Derived.Test.YtmdkokehomboaaaLiftS
import Derived.Test.YtmdkokehomboaaaBlk
import Derived.SliceStrings
namespace Go.Proofs.Ytmdkokehomboaaa
set_option linter.unusedSimpArgs false
set_option linter.unusedVariables false
set_option maxRecDepth 100000
open Go.ChangeShapes Go.WideShapes Go.ChangeAt Go.RowKit Go.Deep Go.Joins
/-- A slice of things of m cells each, as a list. -/
structure RdL {α : Type} (w : World) (A : Option Addr) (n c m : Nat) (Enc : α → Nat → Value) (L : List α) : Prop where
  len : L.length = n
  cap : n ≤ c
  max : c ≤ maxLen
  at_ : 0 < n → ∃ b off, A = some ⟨b, off, none⟩ ∧ b < w.heap.size ∧ ∀ i a, L[i]? = some a → ∀ j, j < m → w.cell? ⟨b, off + i * m + j, none⟩ = some (Enc a j)
theorem RdL.below {α : Type} {w w' : World} {A : Option Addr} {n c m : Nat} {Enc : α → Nat → Value} {L : List α} (h : RdL w A n c m Enc L) (hb : Below w.heap.size w w') : RdL w' A n c m Enc L :=
  ⟨h.len, h.cap, h.max, fun hn => by
    obtain ⟨b, off, e, hlt, hc⟩ := h.at_ hn
    exact ⟨b, off, e, Nat.lt_of_lt_of_le hlt hb.size, fun i a hi j hj => by rw [hb.cell (p := ⟨b, off + i * m + j, none⟩) hlt]; exact hc i a hi j hj⟩⟩
theorem RdL.fr {α : Type} {w w' : World} {A : Option Addr} {n c m : Nat} {Enc : α → Nat → Value} {L : List α} {F : Nat → Prop} (h : RdL w A n c m Enc L) (hf : Fr F w w') (hF : ∀ b, b < w.heap.size → ¬ F b) : RdL w' A n c m Enc L :=
  ⟨h.len, h.cap, h.max, fun hn => by
    obtain ⟨b, off, e, hlt, hc⟩ := h.at_ hn
    exact ⟨b, off, e, Nat.lt_of_lt_of_le hlt hf.size, fun i a hi j hj => by rw [hf.cell hlt (hF b hlt)]; exact hc i a hi j hj⟩⟩
section
variable {H : Type} {enc : TypeId × Value → H} {P : Program}
theorem row_str {W : World} {base : Nat} {t : TypeId} {v : Value} (ht : P.underlying t = some .string) (h : ∃ N y, DataW.trod enc P W base (fun _ => true) true N t [v] = some y) : ∃ s : ByteArray, v = .string s ∧ s.size ≤ maxLen := by
  obtain ⟨N, y, h⟩ := h
  obtain ⟨s, h1, _, h3⟩ := DataW.trod_string ht h
  simp only [List.cons.injEq, and_true] at h1
  exact ⟨s, h1, h3⟩
theorem row_bool {W : World} {base : Nat} {t : TypeId} {v : Value} (ht : P.underlying t = some .bool) (h : ∃ N y, DataW.trod enc P W base (fun _ => true) true N t [v] = some y) : ∃ b : Bool, v = .bool b := by
  obtain ⟨N, y, h⟩ := h
  obtain ⟨s, h1, _⟩ := DataW.trod_bool ht h
  simp only [List.cons.injEq, and_true] at h1
  exact ⟨s, h1⟩
theorem open_rdL {α : Type} (Enc : α → Nat → Value) (Ok : α → Prop) {W : World} {base : Nat} {r : Reach} {b0 : Nat} {t e : TypeId} {fs : Array Field} {v : Value} {d : DataW H} {p : List MemPlace} (ht : P.underlying t = some (.slice e)) (he : P.underlying e = some (.struct fs))
    (hone : oneCellFields P fs = true) (hC : P.cellsOf e = fs.size) (hpos : 0 < fs.size)
    (hfield : ∀ V : Nat → Value, (∀ (j : Nat) (f : Field), fs[j]? = some f → ∃ N y, DataW.trod enc P W base (fun _ => true) true N f.type [V j] = some y) → ∃ a : α, Ok a ∧ ∀ j, j < fs.size → V j = Enc a j)
    (hv : Value.okWide P W r b0 t v) (h : DataW.Trod enc P W base (fun _ => true) true t v d p) :
    ∃ A n c L, v = .slice A n c ∧ RdL W A n c fs.size Enc L ∧ ∀ a ∈ L, Ok a := by
  obtain ⟨A, n, c, V, rfl, R, hV⟩ := open_rdF ht he hone hC hpos hv h
  have each : ∀ i : Fin n, ∃ a : α, Ok a ∧ ∀ j, j < fs.size → V i j = Enc a j := fun i => hfield (V i) (hV i i.2)
  obtain ⟨g, hg⟩ := Classical.axiomOfChoice each
  refine ⟨A, n, c, List.ofFn g, rfl, ⟨List.length_ofFn, R.cap, R.max, fun hn => ?_⟩, fun a ha => ?_⟩
  · obtain ⟨b, off, rfl, hlt, hc⟩ := R.at_ hn
    refine ⟨b, off, rfl, hlt, fun i a hi j hj => ?_⟩
    rw [List.getElem?_ofFn] at hi
    split at hi
    · rename_i hin
      injection hi with hi
      rw [hc i j hin hj, (hg ⟨i, hin⟩).2 j hj, hi]
    · cases hi
  · obtain ⟨i, hi⟩ := List.mem_ofFn.1 ha
    rw [← hi]; exact (hg i).1
/-! #### a whole number and a string -/
abbrev encIS (a : Int × ByteArray) : Nat → Value
  | 0 => .int .i64 a.1
  | _ => .string a.2
def okIS (a : Int × ByteArray) : Prop := (-9223372036854775808 ≤ a.1 ∧ a.1 ≤ 9223372036854775807) ∧ a.2.size ≤ maxLen
theorem open_is {W : World} {base : Nat} {r : Reach} {b0 : Nat} {t e : TypeId} {f0 f1 : Field} {v : Value} {d : DataW H} {p : List MemPlace} (ht : P.underlying t = some (.slice e)) (he : P.underlying e = some (.struct #[f0, f1]))
    (hone : oneCellFields P #[f0, f1] = true) (hC : P.cellsOf e = 2) (k0 : P.underlying f0.type = some (.int .i64)) (k1 : P.underlying f1.type = some .string)
    (hv : Value.okWide P W r b0 t v) (h : DataW.Trod enc P W base (fun _ => true) true t v d p) : ∃ A n c L, v = .slice A n c ∧ RdL W A n c 2 encIS L ∧ ∀ a ∈ L, okIS a :=
  open_rdL encIS okIS ht he hone hC (by simp) (fun V hV => by
    obtain ⟨x, h1, h2⟩ := row_i64 k0 (hV 0 f0 rfl)
    obtain ⟨s, h3, h4⟩ := row_str k1 (hV 1 f1 rfl)
    refine ⟨(x, s), ⟨h2, h4⟩, fun j hj => ?_⟩
    match j with
    | 0 => exact h1
    | 1 => exact h3
    | j + 2 => exact absurd (show j + 2 < 2 from hj) (by omega)) hv h
/-! #### a string and a whole number -/
abbrev encSI (a : ByteArray × Int) : Nat → Value
  | 0 => .string a.1
  | _ => .int .i64 a.2
def okSI (a : ByteArray × Int) : Prop := a.1.size ≤ maxLen ∧ (-9223372036854775808 ≤ a.2 ∧ a.2 ≤ 9223372036854775807)
theorem open_si {W : World} {base : Nat} {r : Reach} {b0 : Nat} {t e : TypeId} {f0 f1 : Field} {v : Value} {d : DataW H} {p : List MemPlace} (ht : P.underlying t = some (.slice e)) (he : P.underlying e = some (.struct #[f0, f1]))
    (hone : oneCellFields P #[f0, f1] = true) (hC : P.cellsOf e = 2) (k0 : P.underlying f0.type = some .string) (k1 : P.underlying f1.type = some (.int .i64))
    (hv : Value.okWide P W r b0 t v) (h : DataW.Trod enc P W base (fun _ => true) true t v d p) : ∃ A n c L, v = .slice A n c ∧ RdL W A n c 2 encSI L ∧ ∀ a ∈ L, okSI a :=
  open_rdL encSI okSI ht he hone hC (by simp) (fun V hV => by
    obtain ⟨s, h3, h4⟩ := row_str k0 (hV 0 f0 rfl)
    obtain ⟨x, h1, h2⟩ := row_i64 k1 (hV 1 f1 rfl)
    refine ⟨(s, x), ⟨h4, h2⟩, fun j hj => ?_⟩
    match j with
    | 0 => exact h3
    | 1 => exact h1
    | j + 2 => exact absurd (show j + 2 < 2 from hj) (by omega)) hv h
/-! #### a whole number, a string and a whole number; two whole numbers and a string -/
abbrev encISI (a : Int × ByteArray × Int) : Nat → Value
  | 0 => .int .i64 a.1
  | 1 => .string a.2.1
  | _ => .int .i64 a.2.2
def okISI (a : Int × ByteArray × Int) : Prop := (-9223372036854775808 ≤ a.1 ∧ a.1 ≤ 9223372036854775807) ∧ a.2.1.size ≤ maxLen ∧ (-9223372036854775808 ≤ a.2.2 ∧ a.2.2 ≤ 9223372036854775807)
theorem open_isi {W : World} {base : Nat} {r : Reach} {b0 : Nat} {t e : TypeId} {f0 f1 f2 : Field} {v : Value} {d : DataW H} {p : List MemPlace} (ht : P.underlying t = some (.slice e)) (he : P.underlying e = some (.struct #[f0, f1, f2]))
    (hone : oneCellFields P #[f0, f1, f2] = true) (hC : P.cellsOf e = 3) (k0 : P.underlying f0.type = some (.int .i64)) (k1 : P.underlying f1.type = some .string) (k2 : P.underlying f2.type = some (.int .i64))
    (hv : Value.okWide P W r b0 t v) (h : DataW.Trod enc P W base (fun _ => true) true t v d p) : ∃ A n c L, v = .slice A n c ∧ RdL W A n c 3 encISI L ∧ ∀ a ∈ L, okISI a :=
  open_rdL encISI okISI ht he hone hC (by simp) (fun V hV => by
    obtain ⟨x, h1, h2⟩ := row_i64 k0 (hV 0 f0 rfl)
    obtain ⟨s, h3, h4⟩ := row_str k1 (hV 1 f1 rfl)
    obtain ⟨y, h5, h6⟩ := row_i64 k2 (hV 2 f2 rfl)
    refine ⟨(x, s, y), ⟨h2, h4, h6⟩, fun j hj => ?_⟩
    match j with
    | 0 => exact h1
    | 1 => exact h3
    | 2 => exact h5
    | j + 3 => exact absurd (show j + 3 < 3 from hj) (by omega)) hv h
abbrev encIIS (a : Int × Int × ByteArray) : Nat → Value
  | 0 => .int .i64 a.1
  | 1 => .int .i64 a.2.1
  | _ => .string a.2.2
def okIIS (a : Int × Int × ByteArray) : Prop := (-9223372036854775808 ≤ a.1 ∧ a.1 ≤ 9223372036854775807) ∧ (-9223372036854775808 ≤ a.2.1 ∧ a.2.1 ≤ 9223372036854775807) ∧ a.2.2.size ≤ maxLen
theorem open_iis {W : World} {base : Nat} {r : Reach} {b0 : Nat} {t e : TypeId} {f0 f1 f2 : Field} {v : Value} {d : DataW H} {p : List MemPlace} (ht : P.underlying t = some (.slice e)) (he : P.underlying e = some (.struct #[f0, f1, f2]))
    (hone : oneCellFields P #[f0, f1, f2] = true) (hC : P.cellsOf e = 3) (k0 : P.underlying f0.type = some (.int .i64)) (k1 : P.underlying f1.type = some (.int .i64)) (k2 : P.underlying f2.type = some .string)
    (hv : Value.okWide P W r b0 t v) (h : DataW.Trod enc P W base (fun _ => true) true t v d p) : ∃ A n c L, v = .slice A n c ∧ RdL W A n c 3 encIIS L ∧ ∀ a ∈ L, okIIS a :=
  open_rdL encIIS okIIS ht he hone hC (by simp) (fun V hV => by
    obtain ⟨x, h1, h2⟩ := row_i64 k0 (hV 0 f0 rfl)
    obtain ⟨y, h5, h6⟩ := row_i64 k1 (hV 1 f1 rfl)
    obtain ⟨s, h3, h4⟩ := row_str k2 (hV 2 f2 rfl)
    refine ⟨(x, y, s), ⟨h2, h6, h4⟩, fun j hj => ?_⟩
    match j with
    | 0 => exact h1
    | 1 => exact h5
    | 2 => exact h3
    | j + 3 => exact absurd (show j + 3 < 3 from hj) (by omega)) hv h
/-! #### strings -/
abbrev encS (s : ByteArray) : Nat → Value := fun _ => .string s
theorem open_rdS {W : World} {base : Nat} {r : Reach} {b0 : Nat} {t e : TypeId} {v : Value} {d : DataW H} {p : List MemPlace} (ht : P.underlying t = some (.slice e)) (he : P.underlying e = some .string) (hc : P.cellsOf e = 1)
    (hv : Value.okWide P W r b0 t v) (h : DataW.Trod enc P W base (fun _ => true) true t v d p) : ∃ A n c L, v = .slice A n c ∧ RdL W A n c 1 encS L ∧ ∀ s ∈ L, s.size ≤ maxLen := by
  obtain ⟨a0, len, cap, rfl⟩ := okWide_slice ht hv
  obtain ⟨fuel, hf⟩ := h
  rcases open_strings ht he hc hf with ⟨hcs, _⟩ | ⟨a, len', cap', ss, hcs, _, hl, hm, hz, _, hcell, hwz⟩
  · simp [Value.cells] at hcs
    obtain ⟨rfl, rfl, rfl⟩ := hcs
    exact ⟨none, 0, 0, [], rfl, ⟨rfl, Nat.le_refl _, Nat.zero_le _, fun h => absurd h (by omega)⟩, fun z hz => by simp at hz⟩
  · simp [Value.cells] at hcs
    obtain ⟨rfl, rfl, rfl⟩ := hcs
    simp only [if_true] at hz
    refine ⟨_, _, _, ss.take len, rfl, ⟨by rw [List.length_take]; omega, hl, hm, fun hn => ?_⟩, fun z hz => hwz z (List.mem_of_mem_take hz)⟩
    obtain ⟨b, off, s⟩ := a
    have h0 := hcell 0 (by omega)
    have hs := plain_of_cell h0
    have hlt := lt_of_cell h0
    rw [block_add] at hlt
    have : s = none := by
      unfold Addr.add at hs
      simpa using hs
    subst this
    refine ⟨b, off, rfl, hlt, fun i x hi j hj => ?_⟩
    have hil : i < (ss.take len).length := (List.getElem?_eq_some_iff.1 hi).1
    rw [List.length_take] at hil
    have hj0 : j = 0 := by omega
    subst hj0
    have := hcell i (by omega)
    rw [add_plain] at this
    rw [Nat.mul_one, Nat.add_zero, this]
    rw [List.getElem?_take] at hi
    rw [if_pos (by omega)] at hi
    simp [List.getD, hi]
/-! #### arrays of three, and two of them -/
theorem array3 {α : Type} {a : Array α} (h : a.size = 3) : ∃ x y z, a = #[x, y, z] := by
  obtain ⟨l⟩ := a
  match l, h with
  | [x, y, z], _ => exact ⟨x, y, z, rfl⟩
theorem array6 {α : Type} {a : Array α} (h : a.size = 6) : ∃ x y z u v s, a = #[x, y, z, u, v, s] := by
  obtain ⟨l⟩ := a
  match l, h with
  | [x, y, z, u, v, s], _ => exact ⟨x, y, z, u, v, s, rfl⟩
theorem trod_a3 {w : World} {base : Nat} {sp : Nat → Bool} {held : Bool} {t e : TypeId} {q : IntKind} {c0 c1 c2 : Value} {n : Nat} {y : DataW H × List MemPlace} (ht : P.underlying t = some (.array 3 e)) (he : P.underlying e = some (.int q)) (hce : P.cellsOf e = 1)
    (h : DataW.trod enc P w base sp held n t [c0, c1, c2] = some y) : ∃ a b c : Int, c0 = .int q a ∧ c1 = .int q b ∧ c2 = .int q c ∧ (Lit.int q a).wf = true ∧ (Lit.int q b).wf = true ∧ (Lit.int q c).wf = true := by
  obtain ⟨xs, m, _, _, hl, hlen, hi⟩ := DataW.trod_array ht h
  match xs, hlen with
  | [y0, y1, y2], _ =>
    have h0 := hi 0 (by omega)
    have h1 := hi 1 (by omega)
    have h2 := hi 2 (by omega)
    simp [hce] at h0 h1 h2
    obtain ⟨a, g1, _, g3⟩ := DataW.trod_int he h0
    obtain ⟨b, k1, _, k3⟩ := DataW.trod_int he h1
    obtain ⟨c, j1, _, j3⟩ := DataW.trod_int he h2
    simp only [List.cons.injEq, and_true] at g1 k1 j1
    exact ⟨a, b, c, g1, k1, j1, g3, k3, j3⟩
theorem open_a3 {w : World} {base : Nat} {sp : Nat → Bool} {held : Bool} {r : Reach} {b0 : Nat} {t e : TypeId} {q : IntKind} {v : Value} {d : DataW H} {p : List MemPlace} (ht : P.underlying t = some (.array 3 e)) (he : P.underlying e = some (.int q)) (hce : P.cellsOf e = 1) (hC : P.cellsOf t = 3)
    (hv : Value.okWide P w r b0 t v) (h : DataW.Trod enc P w base sp held t v d p) :
    ∃ a b c : Int, v = .agg #[.int q a, .int q b, .int q c] ∧ (Lit.int q a).wf = true ∧ (Lit.int q b).wf = true ∧ (Lit.int q c).wf = true := by
  simp only [Value.okWide, ht] at hv
  obtain ⟨cs, rfl, hsz, _⟩ := hv
  obtain ⟨c0, c1, c2, rfl⟩ := array3 (hsz.trans hC)
  obtain ⟨fuel, hf⟩ := h
  obtain ⟨a, b, c, rfl, rfl, rfl, h1, h2, h3⟩ := trod_a3 ht he hce hf
  exact ⟨a, b, c, rfl, h1, h2, h3⟩
theorem open_a23 {w : World} {base : Nat} {sp : Nat → Bool} {held : Bool} {r : Reach} {b0 : Nat} {t s e : TypeId} {q : IntKind} {v : Value} {d : DataW H} {p : List MemPlace} (ht : P.underlying t = some (.array 2 s)) (hs : P.underlying s = some (.array 3 e)) (he : P.underlying e = some (.int q)) (hce : P.cellsOf e = 1) (hcs : P.cellsOf s = 3) (hC : P.cellsOf t = 6)
    (hv : Value.okWide P w r b0 t v) (h : DataW.Trod enc P w base sp held t v d p) :
    ∃ a b c a' b' c' : Int, v = .agg #[.int q a, .int q b, .int q c, .int q a', .int q b', .int q c'] ∧ ((Lit.int q a).wf = true ∧ (Lit.int q b).wf = true ∧ (Lit.int q c).wf = true) ∧ ((Lit.int q a').wf = true ∧ (Lit.int q b').wf = true ∧ (Lit.int q c').wf = true) := by
  simp only [Value.okWide, ht] at hv
  obtain ⟨cs, rfl, hsz, _⟩ := hv
  obtain ⟨c0, c1, c2, c3, c4, c5, rfl⟩ := array6 (hsz.trans hC)
  obtain ⟨fuel, hf⟩ := h
  obtain ⟨xs, m, _, _, hl, hlen, hi⟩ := DataW.trod_array ht hf
  match xs, hlen with
  | [y0, y1], _ =>
    have h0 := hi 0 (by omega)
    have h1 := hi 1 (by omega)
    simp [Value.cells, hcs] at h0 h1
    obtain ⟨a, b, c, rfl, rfl, rfl, g1, g2, g3⟩ := trod_a3 hs he hce h0
    obtain ⟨a', b', c', rfl, rfl, rfl, k1, k2, k3⟩ := trod_a3 hs he hce h1
    exact ⟨a, b, c, a', b', c', rfl, ⟨g1, g2, g3⟩, ⟨k1, k2, k3⟩⟩
end
end Go.Proofs.Ytmdkokehomboaaa
