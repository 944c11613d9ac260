/- The contracts of layer 8 (summary): what Offer comes to, in keys and counts alone. -/
import Derived.Test.YtnpiimaapholiaaSmG
namespace Go.Proofs.Ytnpiimaapholiaa
set_option linter.unusedSimpArgs false
set_option linter.unusedVariables false
open Go.ChangeShapes Go.WideShapes Go.ChangeAt Go.RowKit
/-- a key, its count, what may be others'. -/
abbrev Tri := ByteArray × Int × Int
def Ent.c (x : Ent) : Tri := (x.k, x.n, x.e)
def cutM (n : Nat) (M : List Tri) : List Tri := if M.length = n then M.dropLast else M
def leastM (n : Nat) (M : List Tri) : Int := if M.length < n then 0 else match M.getLast? with
  | some x => x.2.1
  | none => 0
def preM (n : Nat) (M : List Tri) (s : ByteArray) : List Tri × Nat := match M.findIdx? (fun x => decide (x.1 = s)) with
  | some j => (M, j)
  | none => (cutM n M ++ [(s, leastM n M, leastM n M)], (cutM n M).length)
def incM (M : List Tri) (j : Nat) (d : Int) : List Tri := match M[j]? with
  | some x => M.set j (x.1, x.2.1 + d, x.2.2)
  | none => M
def riseM : List Tri → Nat → List Tri
  | M, 0 => M
  | M, i + 1 => match M[i]?, M[i + 1]? with
    | some y, some x => if y.2.1 < x.2.1 then riseM ((M.set i x).set (i + 1) y) i else M
    | _, _ => M
def begM (M : List Tri) (tot d : Int) : List Tri × Int := if 4611686018427387904 - d ≤ tot then ([], 0) else (M, tot)
def offerM (n : Nat) (M : List Tri) (tot : Int) (s : ByteArray) (d : Int) : List Tri × Int :=
  if d < 1 ∨ 4611686018427387904 ≤ d ∨ 64 < s.size then (M, tot)
  else (riseM (incM (preM n (begM M tot d).1 s).1 (preM n (begM M tot d).1 s).2 d) (preM n (begM M tot d).1 s).2, (begM M tot d).2 + d)
theorem rise_map : ∀ (i : Nat) (L : List Ent), (riseE L i).map Ent.c = riseM (L.map Ent.c) i
  | 0, L => by unfold riseE riseM; rfl
  | i + 1, L => by
    unfold riseE riseM
    rw [List.getElem?_map, List.getElem?_map]
    cases hy : L[i]? with
    | none => rfl
    | some y =>
      cases hx : L[i + 1]? with
      | none => rfl
      | some x =>
        show (if y.n < x.n then riseE ((L.set i x).set (i + 1) y) i else L).map Ent.c = if y.n < x.n then riseM (((L.map Ent.c).set i x.c).set (i + 1) y.c) i else L.map Ent.c
        split
        · rw [rise_map i, List.map_set, List.map_set]
        · rfl
section
variable {w W : World} {Q : SmN} {L M : List Ent} {tot : Int} {σ : KSt}
theorem SmOK.more {n : Nat} {d : Int} (h : SmOK n L tot σ) (hd : 0 ≤ d) (hs : tot + d < 4611686018427387904) : SmOK n L (tot + d) σ :=
  ⟨h.key, h.has, h.nd, h.cnt, fun x hx => by have := h.bd x hx; omega, by have := h.tb; omega⟩
theorem set_same {α : Type} {l : List α} {j : Nat} {x : α} (hj : l[j]? = some x) : l.set j x = l := by
  obtain ⟨h, e⟩ := List.getElem?_eq_some_iff.1 hj
  rw [← e]; exact List.set_getElem_self h
theorem SmOK.inc {n j : Nat} {x : Ent} {d : Int} (h : SmOK n L tot σ) (hj : L[j]? = some x) (hd : 0 ≤ d) (hs : x.n + d ≤ tot) : SmOK n (L.set j ⟨x.k, x.n + d, x.e, x.p⟩) tot σ := by
  have hmem : ∀ y ∈ L.set j ⟨x.k, x.n + d, x.e, x.p⟩, y ∈ L ∨ y = ⟨x.k, x.n + d, x.e, x.p⟩ := fun y hy => List.mem_or_eq_of_mem_set hy
  have hx : x ∈ L := List.mem_of_getElem? hj
  have hp : (L.set j ⟨x.k, x.n + d, x.e, x.p⟩).map Ent.p = L.map Ent.p := by
    rw [List.map_set]
    exact set_same (by rw [List.getElem?_map, hj]; rfl)
  refine ⟨fun y hy => ?_, fun i s hi => ?_, by rw [hp]; exact h.nd, by rw [List.length_set]; exact h.cnt, fun y hy => ?_, h.tb⟩
  · rcases hmem y hy with h1 | h1
    · exact h.key y h1
    · rw [h1]; exact h.key x hx
  · obtain ⟨y, hy, e⟩ := h.has i s hi
    have : i ∈ L.map Ent.p := List.mem_map.2 ⟨y, hy, e⟩
    rw [← hp] at this
    obtain ⟨z, hz, e2⟩ := List.mem_map.1 this
    exact ⟨z, hz, e2⟩
  · rcases hmem y hy with h1 | h1
    · exact h.bd y h1
    · rw [h1]
      have := h.bd x hx
      exact ⟨by show 0 ≤ x.n + d; omega, hs, this.2.2.1, this.2.2.2⟩
theorem inc_map {j : Nat} {x : Ent} {d : Int} (hj : L[j]? = some x) : (L.set j ⟨x.k, x.n + d, x.e, x.p⟩).map Ent.c = incM (L.map Ent.c) j d := by
  unfold incM
  rw [List.getElem?_map, hj, List.map_set]
  rfl
theorem pre_yes {n j : Nat} {x : Ent} {s : ByteArray} (hj : L[j]? = some x) (hk : x.k = s) (hu : ∀ i y, L[i]? = some y → y.k = s → i = j) : preM n (L.map Ent.c) s = (L.map Ent.c, j) := by
  have hf : (L.map Ent.c).findIdx? (fun x => decide (x.1 = s)) = some j := by
    obtain ⟨hl, e⟩ := List.getElem?_eq_some_iff.1 hj
    rw [List.findIdx?_eq_some_iff_getElem]
    refine ⟨by simpa using hl, by simp [e, Ent.c, hk], fun i hi => ?_⟩
    simp only [List.getElem_map, Ent.c, decide_eq_true_eq]
    intro e2
    have := hu i L[i] (List.getElem?_eq_getElem (by omega)) e2
    omega
  unfold preM
  rw [hf]
theorem pre_no {n : Nat} {s : ByteArray} (hk : ∀ x ∈ L, x.k ≠ s) : preM n (L.map Ent.c) s = (cutM n (L.map Ent.c) ++ [(s, leastM n (L.map Ent.c), leastM n (L.map Ent.c))], (cutM n (L.map Ent.c)).length) := by
  have hf : (L.map Ent.c).findIdx? (fun x => decide (x.1 = s)) = none := by
    rw [List.findIdx?_eq_none_iff]
    intro x hx
    obtain ⟨y, hy, e⟩ := List.mem_map.1 hx
    rw [← e, decide_eq_false_iff_not]
    exact hk y hy
  unfold preM
  rw [hf]
theorem pre_short {n : Nat} {s : ByteArray} {i : Nat} (hk : ∀ x ∈ L, x.k ≠ s) (hl : L.length < n) : preM n (L.map Ent.c) s = ((L ++ [(⟨s, 0, 0, i⟩ : Ent)]).map Ent.c, L.length) := by
  rw [pre_no hk]
  unfold cutM leastM
  rw [List.length_map, if_neg (by omega), if_pos hl, List.map_append, List.length_map]
  rfl
theorem pre_full {n : Nat} {s : ByteArray} {i : Nat} {x : Ent} (hk : ∀ y ∈ M ++ [x], y.k ≠ s) (hl : M.length + 1 = n) : preM n ((M ++ [x]).map Ent.c) s = ((M ++ [(⟨s, x.n, x.n, i⟩ : Ent)]).map Ent.c, M.length) := by
  rw [pre_no hk]
  unfold cutM leastM
  rw [List.length_map, List.length_append, List.length_singleton, if_pos hl, if_neg (by omega), List.map_append, List.map_append]
  have e1 : (List.map Ent.c M ++ List.map Ent.c [x]).dropLast = List.map Ent.c M := by simp
  have e2 : (List.map Ent.c M ++ List.map Ent.c [x]).getLast? = some x.c := by simp
  rw [e1, e2, List.length_map]
  rfl
end
end Go.Proofs.Ytnpiimaapholiaa
