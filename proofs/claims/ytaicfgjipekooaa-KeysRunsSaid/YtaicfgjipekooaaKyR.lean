/- Arguments that are slices of calls of a store, opened; what a run of calls keeps. -/
import Derived.Test.YtaicfgjipekooaaRowF
import Derived.Test.YtaicfgjipekooaaKyE
import Derived.Test.YtaicfgjipekooaaGen
namespace Go.Proofs.Ytaicfgjipekooaa
open Go.ChangeShapes Go.WideShapes Go.ChangeAt Go.RowKit Go.Deep
/-- A slice of structs of two whole numbers and a string. -/
structure RdK (w : World) (A : Option Addr) (n c : Nat) (x y : Nat → Int) (s : Nat → ByteArray) : Prop where
  cap : n ≤ c
  max : c ≤ maxLen
  at_ : 0 < n → ∃ b off, A = some ⟨b, off, none⟩ ∧ b < w.heap.size ∧ ∀ i, i < n → w.cell? ⟨b, off + i * 3, none⟩ = some (.int .i64 (x i)) ∧ w.cell? ⟨b, off + i * 3 + 1, none⟩ = some (.int .i64 (y i)) ∧ w.cell? ⟨b, off + i * 3 + 2, none⟩ = some (.string (s i))
  bx : ∀ i, i < n → -9223372036854775808 ≤ x i ∧ x i ≤ 9223372036854775807
  by_ : ∀ i, i < n → -9223372036854775808 ≤ y i ∧ y i ≤ 9223372036854775807
  bs : ∀ i, i < n → (s i).size ≤ maxLen
theorem RdK.below {w w' : World} {A : Option Addr} {n c : Nat} {x y : Nat → Int} {s : Nat → ByteArray} (h : RdK w A n c x y s) (hb : Below w.heap.size w w') : RdK w' A n c x y s :=
  ⟨h.cap, h.max, fun hn => by
    obtain ⟨b, off, e, hlt, hc⟩ := h.at_ hn
    exact ⟨b, off, e, Nat.lt_of_lt_of_le hlt hb.size, fun i hi => by rw [hb.cell (p := ⟨b, off + i * 3, none⟩) hlt, hb.cell (p := ⟨b, off + i * 3 + 1, none⟩) hlt, hb.cell (p := ⟨b, off + i * 3 + 2, none⟩) hlt]; exact hc i hi⟩, h.bx, h.by_, h.bs⟩
section
variable {H : Type} {enc : TypeId × Value → H} {P : Program}
theorem row_str {W : World} {base : Nat} {t : TypeId} {v : Value} (ht : P.underlying t = some .string) (h : ∃ N y, DataW.trod enc P W base (fun _ => true) true N t [v] = some y) : ∃ s : ByteArray, v = .string s ∧ s.size ≤ maxLen := by
  obtain ⟨N, y, h⟩ := h
  obtain ⟨s, h1, _, h3⟩ := DataW.trod_string ht h
  simp only [List.cons.injEq, and_true] at h1
  exact ⟨s, h1, h3⟩
theorem open_rdK {W : World} {base : Nat} {r : Reach} {b0 : Nat} {t e : TypeId} {f0 f1 f2 : Field} {v : Value} {d : DataW H} {p : List MemPlace} (ht : P.underlying t = some (.slice e)) (he : P.underlying e = some (.struct #[f0, f1, f2]))
    (hone : oneCellFields P #[f0, f1, f2] = true) (hC : P.cellsOf e = 3) (k0 : P.underlying f0.type = some (.int .i64)) (k1 : P.underlying f1.type = some (.int .i64)) (k2 : P.underlying f2.type = some .string)
    (hv : Value.okWide P W r b0 t v) (h : DataW.Trod enc P W base (fun _ => true) true t v d p) : ∃ A n c x y s, v = .slice A n c ∧ RdK W A n c x y s := by
  obtain ⟨A, n, c, V, rfl, R0, hV⟩ := open_rdF ht he hone hC (by simp) hv h
  have R : RdF W A n c 3 V := R0
  have e0 : ∀ i, ∃ a : Int, i < n → V i 0 = .int .i64 a ∧ (-9223372036854775808 ≤ a ∧ a ≤ 9223372036854775807) := by
    intro i
    by_cases hi : i < n
    · obtain ⟨a, h1, h2⟩ := row_i64 k0 (hV i hi 0 f0 rfl); exact ⟨a, fun _ => ⟨h1, h2⟩⟩
    · exact ⟨0, fun h => absurd h hi⟩
  have e1 : ∀ i, ∃ a : Int, i < n → V i 1 = .int .i64 a ∧ (-9223372036854775808 ≤ a ∧ a ≤ 9223372036854775807) := by
    intro i
    by_cases hi : i < n
    · obtain ⟨a, h1, h2⟩ := row_i64 k1 (hV i hi 1 f1 rfl); exact ⟨a, fun _ => ⟨h1, h2⟩⟩
    · exact ⟨0, fun h => absurd h hi⟩
  have e2 : ∀ i, ∃ s : ByteArray, i < n → V i 2 = .string s ∧ s.size ≤ maxLen := by
    intro i
    by_cases hi : i < n
    · obtain ⟨a, h1, h2⟩ := row_str k2 (hV i hi 2 f2 rfl); exact ⟨a, fun _ => ⟨h1, h2⟩⟩
    · exact ⟨⟨#[]⟩, fun h => absurd h hi⟩
  obtain ⟨x, hx⟩ := Classical.axiomOfChoice e0
  obtain ⟨y, hy⟩ := Classical.axiomOfChoice e1
  obtain ⟨s, hs⟩ := Classical.axiomOfChoice e2
  refine ⟨A, n, c, x, y, s, rfl, R.cap, R.max, fun hn => ?_, fun i hi => (hx i hi).2, fun i hi => (hy i hi).2, fun i hi => (hs i hi).2⟩
  obtain ⟨b, off, rfl, hlt, hc⟩ := R.at_ hn
  refine ⟨b, off, rfl, hlt, fun i hi => ⟨?_, ?_, ?_⟩⟩
  · rw [← (hx i hi).1]; exact hc i 0 hi (by simp)
  · rw [← (hy i hi).1]; exact hc i 1 hi (by simp)
  · rw [← (hs i hi).1]; exact hc i 2 hi (by simp)
end
abbrev strC (M : List ByteArray) : Array Value := (M.map Value.string).toArray
theorem strC_get (M : List ByteArray) (i : Nat) (h : i < M.length) : (strC M)[i]? = some (.string (M.getD i ⟨#[]⟩)) := by
  unfold strC
  rw [List.getElem?_toArray, List.getElem?_map, List.getElem?_eq_getElem h]
  simp [List.getD, h]
theorem strC_set (M : List ByteArray) (i : Nat) (s : ByteArray) : (strC M).setIfInBounds i (.string s) = strC (M.set i s) := by
  unfold strC; simp only [List.map_set, List.setIfInBounds_toArray]
abbrev hasC (K : Nat → Option ByteArray) (n : Nat) : Array Value := ((List.range n).map fun i => Value.bool (K i).isSome).toArray
theorem hasC_get (K : Nat → Option ByteArray) (n i : Nat) (h : i < n) : (hasC K n)[i]? = some (.bool (K i).isSome) := by
  unfold hasC
  rw [List.getElem?_toArray, List.getElem?_map, List.getElem?_range h]
  rfl
theorem hasC_set (K : Nat → Option ByteArray) (n i : Nat) (k : Option ByteArray) : (hasC K n).setIfInBounds i (.bool k.isSome) = hasC (upd K i k) n := by
  apply Array.ext_getElem?
  intro j
  rw [Array.getElem?_setIfInBounds]
  by_cases hj : j < n
  · rw [hasC_get _ _ _ hj]
    by_cases hij : i = j
    · subst hij; simp [upd, hj]
    · rw [if_neg hij, hasC_get _ _ _ hj]; simp [upd, Ne.symm hij]
  · rw [Array.getElem?_eq_none (by simp; omega : (hasC (upd K i k) n).size ≤ j)]
    split
    · rename_i h; rw [if_neg (by simp; omega)]
    · rw [Array.getElem?_eq_none (by simp; omega)]
abbrev natC (l : List Nat) : List Value := l.map fun i : Nat => Value.int .i64 (i : Int)
/-- the store, what the law keeps beside it. -/
structure KS (w : World) (b gb gs gf mb hb N : Nat) (xf : Value) (fl : List Nat) (K : Nat → Option ByteArray) : Prop where
  ki : KeysIn w b gb gs gf N fl K
  ms : ∃ M : List ByteArray, M.length = N ∧ Blk w mb 9 (strC M) ∧ ∀ i s, K i = some s → M.getD i ⟨#[]⟩ = s
  hs : Blk w hb 4 (hasC K N)
  fr : w.ownsRow (hb + 1) 3 1 xf fl.length (natC fl)
  ne : b < mb ∧ gb < mb ∧ gs < mb ∧ gf < mb ∧ mb < hb
theorem KS.below {w w' : World} {b gb gs gf mb hb N : Nat} {xf : Value} {fl : List Nat} {K : Nat → Option ByteArray} (h : KS w b gb gs gf mb hb N xf fl K) (hb' : Below w.heap.size w w') : KS w' b gb gs gf mb hb N xf fl K := by
  obtain ⟨M, h1, h2, h3⟩ := h.ms
  exact ⟨h.ki.keep hb', ⟨M, h1, h2.keep hb', h3⟩, h.hs.keep hb', G.own_below h.fr hb', h.ne⟩
end Go.Proofs.Ytaicfgjipekooaa
