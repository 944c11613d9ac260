import Derived.Maps.OwnSet
import Derived.Maps.RangeWalk
import Derived.Test.YtannniobeanhlaaGreatZObj
/- Maps of strings that a call makes, with elements of whatever type: what they have, as a function. -/
namespace Go.Proofs.YtannniobeanhlaaGreat.Mp
set_option linter.unusedSimpArgs false
set_option linter.unusedVariables false
set_option maxRecDepth 100000
open Go Go.RowKit Go.Maps
/-- an element reads as itself. -/
def el (v : Value) : Option (DataW Value × List MemPlace) := some (.held v, [])
/-- a key's token. -/
abbrev kl (s : ByteArray) : Lit := .string s.data.toList
theorem kl_inj {s t : ByteArray} (h : kl s = kl t) : s = t := by
  injection h with h
  exact ByteArray.ext (Array.toList_inj.1 h)
/-- what a datum has. -/
structure Has (D : DataW Value) (M : ByteArray → Option Value) : Prop where
  is : ∀ s, s.size ≤ maxLen → Maps.has D (kl s) = (M s).isSome
  at_ : ∀ s v, s.size ≤ maxLen → M s = some v → ∀ z, D.atKey (kl s) z = .held v
section
variable {P : Program} {k : TypeId}
/-- a map in block b, of so many keys, that has M. -/
def MapS (P : Program) (k : TypeId) (w : World) (b c : Nat) (M : ByteArray → Option Value) : Prop := ∃ D, w.ownsMap P k el b c D ∧ Maps.size D = c ∧ Has D M
theorem tight {w : World} {b n : Nat} {D : DataW Value} (h : w.ownsMap P k el b n D) : w.ownsMap P k el b (Maps.size D) D := by
  obtain ⟨es, clock, hb, F, hs, rfl⟩ := h
  exact ⟨es, clock, hb, F, by simp [Maps.size, length_sorted], rfl⟩
theorem MapS.lt {w : World} {b c : Nat} {M : ByteArray → Option Value} (h : MapS P k w b c M) : b < w.heap.size := by obtain ⟨D, h, _⟩ := h; exact h.lt
theorem MapS.fr {w w' : World} {b c : Nat} {M : ByteArray → Option Value} {F : Nat → Prop} (h : MapS P k w b c M) (hf : Fr F w w') (hF : ¬ F b) : MapS P k w' b c M := by
  obtain ⟨D, ⟨es, clock, hb, F', hs, hD⟩, h2, h3⟩ := h
  exact ⟨D, ⟨es, clock, (hf.block b (lt_of_block hb) hF).trans hb, F', hs, hD⟩, h2, h3⟩
theorem MapS.keep {w w' : World} {b c : Nat} {M : ByteArray → Option Value} (h : MapS P k w b c M) (hb : Below w.heap.size w w') : MapS P k w' b c M := h.fr (F := fun _ => False) (Fr.of_below hb) id
theorem MapS.new (w : World) : MapS P k (w.alloc (.map #[] 0)) w.heap.size 0 (fun _ => none) :=
  ⟨.map [], World.ownsMap_made _ _ _ _, rfl, ⟨fun _ _ => rfl, (fun _ _ _ h => by cases h)⟩⟩
section
variable {w : World} {b c : Nat} {M : ByteArray → Option Value} {t e : TypeId}
theorem key_str (hk : P.underlying k = some .string) {s : ByteArray} (hs : s.size ≤ maxLen) : keyOf P k (.string s) = some (kl s) := WideMaps.keyOf_string_mk hk hs
/-- 'len(m)'. -/
theorem MapS.len (ht : P.underlying t = some (.map k e)) (h : MapS P k w b c M) (ty : TypeId) : (Builtin.len_ #[t] ty #[.map (some b)]).run P w = .ok (.int .i64 (c : Int)) w := by
  obtain ⟨D, h1, h2, h3⟩ := h
  rw [h1.len ht ty, h2]
theorem fr_turned {w w' : World} (h : w.mapTurned w' b) : Fr (fun k => k = b) w w' := by
  have hg := h.grown
  exact ⟨hg.os, hg.tape, hg.output, hg.size, fun k hk hF => hg.block k hk (fun e => hF (by injection e with e))⟩
/-- 'delete(m, s)'. -/
theorem MapS.drop (hk : P.underlying k = some .string) (ht : P.underlying t = some (.map k e)) (h : MapS P k w b c M) {s : ByteArray} (hs : s.size ≤ maxLen) (ty : TypeId) :
    ∃ w', (Builtin.delete_ #[t, k] ty #[.map (some b), .string s]).run P w = .ok (.tuple #[]) w' ∧ MapS P k w' b (if (M s).isSome then c - 1 else c) (fun x => if x = s then none else M x) ∧ Fr (fun k => k = b) w w' := by
  obtain ⟨D, h1, h2, h3⟩ := h
  obtain ⟨w', hr, ho, hm⟩ := h1.drop (string_keyed hk) ht (key_str hk hs) ty
  have hT := h1.tidy (string_keyed hk)
  have hsz : Maps.size (D.del (kl s)) = if (M s).isSome then c - 1 else c := by
    have := size_del (k := kl s) hT
    rw [h3.is s hs, h2] at this
    split at this <;> rename_i hh
    · rw [if_pos hh]; omega
    · rw [if_neg hh]; omega
  refine ⟨w', hr, ⟨D.del (kl s), by rw [← hsz]; exact tight ho, hsz, ⟨fun x hx => ?_, fun x u hx hu z => ?_⟩⟩, fr_turned hm⟩
  · by_cases e : x = s
    · subst e; rw [has_del_same]; simp
    · rw [has_del_other (fun h => e (kl_inj h)), h3.is x hx, if_neg e]
  · by_cases e : x = s
    · subst e; simp at hu
    · rw [if_neg e] at hu
      rw [atKey_del_other (fun h => e (kl_inj h))]
      exact h3.at_ x u hx hu z
end
/-! #### going over a map -/
def RangeS (P : Program) (k : TypeId) (w : World) (b r c : Nat) (M : ByteArray → Option Value) (left : ByteArray → Bool) (n : Nat) : Prop :=
  ∃ D lf, w.ranges P k el b r c D lf n ∧ Maps.size D = c ∧ Has D M ∧ ∀ s, s.size ≤ maxLen → lf (kl s) = left s
theorem RangeS.fr {w w' : World} {b r c n : Nat} {M : ByteArray → Option Value} {left : ByteArray → Bool} {F : Nat → Prop} (h : RangeS P k w b r c M left n) (hf : Fr F w w') (hF : ¬ F b) (hR : ¬ F r) : RangeS P k w' b r c M left n := by
  obtain ⟨D, lf, ⟨es, clock, since, seen, c0, hb, F', hs, hD, hr, h5⟩, h2, h3, h4⟩ := h
  exact ⟨D, lf, ⟨es, clock, since, seen, c0, (hf.block b (lt_of_block hb) hF).trans hb, F', hs, hD, (hf.block r (lt_of_block hr) hR).trans hr, h5⟩, h2, h3, h4⟩
theorem RangeS.keep {w w' : World} {b r c n : Nat} {M : ByteArray → Option Value} {left : ByteArray → Bool} (h : RangeS P k w b r c M left n) (hb : Below w.heap.size w w') : RangeS P k w' b r c M left n := h.fr (F := fun _ => False) (Fr.of_below hb) id id
theorem RangeS.map {w : World} {b r c n : Nat} {M : ByteArray → Option Value} {left : ByteArray → Bool} (h : RangeS P k w b r c M left n) : MapS P k w b c M := by
  obtain ⟨D, lf, h1, h2, h3, _⟩ := h
  exact ⟨D, h1.owns, h2, h3⟩
section
variable {w : World} {ops : Array Oper} {rest : List Oper} {o : Oper} {a : Act} {Q : Exit → Act → World → Prop} {b r c n : Nat} {M : ByteArray → Option Value} {left : ByteArray → Bool} {t e : TypeId}
end
end
end Go.Proofs.YtannniobeanhlaaGreat.Mp
