/- The contracts of layer 13 (frame): lists of keys written. -/
import Derived.Test.YtghhoofdbmgacaaDoorFaB
import Derived.Test.YtghhoofdbmgacaaDoorRowF
namespace Go.Proofs.YtghhoofdbmgacaaDoor
set_option linter.unusedSimpArgs false
set_option linter.unusedVariables false
open Go.ChangeShapes Go.WideShapes Go.ChangeAt Go.RowKit Go.Deep
/-- a key with what is told of it, as it lies. -/
structure CV where
  s : ByteArray
  n : Int
  e : Int
def CV.z (a : CV) : Cnt := ⟨nums a.s, a.n, a.e⟩
def CV.cells (a : CV) : List Value := [.string a.s, .int .i64 a.n, .int .i64 a.e]
abbrev cvC (s : ByteArray) (n e : Int) : Array Value := #[.string s, .int .i64 n, .int .i64 e]
def CV.okV (a : CV) : Prop := a.s.size ≤ maxLen ∧ i64P a.n ∧ i64P a.e
/-- a slice of them. -/
structure CvAt (w : World) (A : Option Addr) (c : Nat) (ls : List CV) : Prop where
  cap : ls.length ≤ c
  max : c ≤ maxLen
  at_ : 0 < ls.length → ∃ g off, A = some ⟨g, off, none⟩ ∧ g < w.heap.size ∧ ∀ (j : Nat) (h : j < ls.length) (i : Nat), i < 3 → w.cell? ⟨g, off + j * 3 + i, none⟩ = (ls[j]).cells[i]?
theorem CvAt.below {w w' : World} {c : Nat} {A : Option Addr} {ls : List CV} (h : CvAt w A c ls) (hb : Below w.heap.size w w') : CvAt w' A c ls :=
  ⟨h.cap, h.max, fun h0 => by
    obtain ⟨g, off, e, hlt, hc⟩ := h.at_ h0
    exact ⟨g, off, e, Nat.lt_of_lt_of_le hlt hb.size, fun j hj i hi => (hb.cell (p := ⟨g, off + j * 3 + i, none⟩) hlt).trans (hc j hj i hi)⟩⟩
section
variable {H : Type} {enc : TypeId × Value → H} {P : Program}
theorem row_strL {W : World} {base : Nat} {t : TypeId} {v : Value} (ht : P.underlying t = some .string) (h : ∃ N y, DataW.trod enc P W base (fun _ => true) true N t [v] = some y) : ∃ s : ByteArray, v = .string s ∧ s.size ≤ maxLen := by
  obtain ⟨N, y, h⟩ := h
  obtain ⟨s, h1, _, h3⟩ := DataW.trod_string ht h
  simp only [List.cons.injEq, and_true] at h1
  exact ⟨s, h1, h3⟩
theorem open_rdV {W : World} {base : Nat} {r : Reach} {b0 : Nat} {t e : TypeId} {f0 f1 f2 : Field} {v : Value} {d : DataW H} {p : List MemPlace} (ht : P.underlying t = some (.slice e)) (he : P.underlying e = some (.struct #[f0, f1, f2]))
    (hone : oneCellFields P #[f0, f1, f2] = true) (hC : P.cellsOf e = 3) (k0 : P.underlying f0.type = some .string) (k1 : P.underlying f1.type = some (.int .i64)) (k2 : P.underlying f2.type = some (.int .i64))
    (hv : Value.okWide P W r b0 t v) (h : DataW.Trod enc P W base (fun _ => true) true t v d p) : ∃ A n c ls, v = .slice A n c ∧ ls.length = n ∧ CvAt W A c ls ∧ ∀ a ∈ ls, a.okV := by
  obtain ⟨A, n, c, V, rfl, R0, hV⟩ := open_rdF ht he hone hC (by simp) hv h
  have R : RdF W A n c 3 V := R0
  have e1 : ∀ i, ∃ a : Int, i < n → V i 1 = .int .i64 a ∧ (-9223372036854775808 ≤ a ∧ a ≤ 9223372036854775807) := by
    intro i
    by_cases hi : i < n
    · obtain ⟨a, h1, h2⟩ := row_i64 k1 (hV i hi 1 f1 rfl); exact ⟨a, fun _ => ⟨h1, h2⟩⟩
    · exact ⟨0, fun h => absurd h hi⟩
  have e2 : ∀ i, ∃ a : Int, i < n → V i 2 = .int .i64 a ∧ (-9223372036854775808 ≤ a ∧ a ≤ 9223372036854775807) := by
    intro i
    by_cases hi : i < n
    · obtain ⟨a, h1, h2⟩ := row_i64 k2 (hV i hi 2 f2 rfl); exact ⟨a, fun _ => ⟨h1, h2⟩⟩
    · exact ⟨0, fun h => absurd h hi⟩
  have e0 : ∀ i, ∃ s : ByteArray, i < n → V i 0 = .string s ∧ s.size ≤ maxLen := by
    intro i
    by_cases hi : i < n
    · obtain ⟨a, h1, h2⟩ := row_strL k0 (hV i hi 0 f0 rfl); exact ⟨a, fun _ => ⟨h1, h2⟩⟩
    · exact ⟨⟨#[]⟩, fun h => absurd h hi⟩
  obtain ⟨s, hs⟩ := Classical.axiomOfChoice e0
  obtain ⟨x, hx⟩ := Classical.axiomOfChoice e1
  obtain ⟨y, hy⟩ := Classical.axiomOfChoice e2
  have hlen : ((List.range n).map fun i => (⟨s i, x i, y i⟩ : CV)).length = n := by simp
  refine ⟨A, n, c, (List.range n).map fun i => ⟨s i, x i, y i⟩, rfl, hlen, ⟨by rw [hlen]; exact R.cap, R.max, fun hn => ?_⟩, fun a ha => ?_⟩
  · rw [hlen] at hn
    obtain ⟨b, off, rfl, hlt, hc⟩ := R.at_ hn
    refine ⟨b, off, rfl, hlt, fun j hj i hi => ?_⟩
    rw [hlen] at hj
    have := hc j i hj (by simpa using hi)
    simp only [List.getElem_map, List.getElem_range]
    rw [this]
    match i, hi with
    | 0, _ => rw [(hs j hj).1]; rfl
    | 1, _ => rw [(hx j hj).1]; rfl
    | 2, _ => rw [(hy j hj).1]; rfl
  · obtain ⟨i, hi, rfl⟩ := List.mem_map.1 ha
    have hi := List.mem_range.1 hi
    exact ⟨(hs i hi).2, (hx i hi).2, (hy i hi).2⟩
end
theorem CV.ok {a : CV} (h : a.okV) (hs : a.s.size ≤ 64) : a.z.ok := ⟨by show (nums a.s).length ≤ 64; rw [nums_length]; exact hs, nums_bd _, h.2.1, h.2.2⟩
def zs (ls : List CV) : List Cnt := ls.map CV.z
theorem zs_ok {ls : List CV} (h : ∀ a ∈ ls, a.okV) (hs : ∀ a ∈ ls, a.s.size ≤ 64) : oks (zs ls) := fun c hc => by
  obtain ⟨a, ha, rfl⟩ := List.mem_map.1 hc
  exact CV.ok (h a ha) (hs a ha)
theorem zs_length (ls : List CV) : (zs ls).length = ls.length := List.length_map _
theorem top_byt {rule : Int} {l : List Cnt} (hr : 0 ≤ rule ∧ rule ≤ 255) (hl : l.length ≤ 255) (h : oks l) : byt (topZ rule l) := by
  intro z hz
  unfold topZ at hz
  simp only [List.mem_cons] at hz
  rcases hz with rfl | rfl | rfl | hz
  · omega
  · omega
  · omega
  · exact flat_byt h z hz
theorem top_length (rule : Int) (l : List Cnt) : (topZ rule l).length = 3 + sumL l := by unfold topZ; simp [flat_sum]; omega
theorem zs_take {ls : List CV} {i : Nat} (hi : i < ls.length) : flat (zs (ls.take (i + 1))) = flat (zs (ls.take i)) ++ (ls[i]).z.z := by
  unfold zs
  rw [List.take_succ_eq_append_getElem hi, List.map_append, flat_app]
  simp [flat]
theorem flat_take {ls : List CV} (h : oks (zs ls)) (i : Nat) : (flat (zs (ls.take i))).length ≤ 81 * ls.length := by
  have h1 : oks (zs (ls.take i)) := fun c hc => h c (by
    unfold zs at hc ⊢
    rw [List.map_take] at hc
    exact List.mem_of_mem_take hc)
  have := flat_len h1
  rw [zs_length, List.length_take] at this
  omega
end Go.Proofs.YtghhoofdbmgacaaDoor
