/- Maps that a call makes, with keys and elements of whatever type: what they have, as a function. -/
import Derived.Maps.OwnSet
import Derived.Maps.RangeWalk
import Derived.Test.YteeinckmmbdfoaaBlk
namespace Go.Proofs.Yteeinckmmbdfoaa.Mg
set_option linter.unusedSimpArgs false
set_option linter.unusedVariables false
set_option maxRecDepth 100000
open Go Go.RowKit Go.Maps
/-- an element reads as itself. -/
def el (v : Value) : Option (DataW Value × List MemPlace) := some (.held v, [])
/-- how keys are laid. -/
structure KC (P : Program) (k : TypeId) (α : Type) where
  vl : α → Value
  kl : α → Lit
  ok : α → Prop
  keyed : Keyed P k
  inj : ∀ {s t}, kl s = kl t → s = t
  isKey : ∀ s, WideAt.IsKeyLit (kl s)
  vinj : ∀ {s t}, vl s = vl t → s = t
  kmk : ∀ s, ok s → keyOf P k (vl s) = some (kl s)
  back : ∀ v l, keyOf P k v = some l → ∃ s, v = vl s ∧ l = kl s ∧ ok s
section
variable {P : Program} {k : TypeId} {α : Type} {C : KC P k α}
/-- what a datum has. -/
structure Has (C : KC P k α) (D : DataW Value) (M : α → Option Value) : Prop where
  is : ∀ s, C.ok s → Maps.has D (C.kl s) = (M s).isSome
  at_ : ∀ s v, C.ok s → M s = some v → ∀ z, D.atKey (C.kl s) z = .held v
/-- a map in block b, of so many keys, that has M. -/
def MapS (C : KC P k α) (w : World) (b c : Nat) (M : α → Option Value) : Prop := ∃ D, w.ownsMap P k el b c D ∧ Maps.size D = c ∧ Has C D M
theorem tight {w : World} {b n : Nat} {D : DataW Value} (h : w.ownsMap P k el b n D) : w.ownsMap P k el b (Maps.size D) D := by
  obtain ⟨es, clock, hb, F, hs, rfl⟩ := h
  exact ⟨es, clock, hb, F, by simp [Maps.size, length_sorted], rfl⟩
theorem MapS.lt {w : World} {b c : Nat} {M : α → Option Value} (h : MapS C w b c M) : b < w.heap.size := by obtain ⟨D, h, _⟩ := h; exact h.lt
theorem MapS.fr {w w' : World} {b c : Nat} {M : α → Option Value} {F : Nat → Prop} (h : MapS C w b c M) (hf : Fr F w w') (hF : ¬ F b) : MapS C w' b c M := by
  obtain ⟨D, ⟨es, clock, hb, F', hs, hD⟩, h2, h3⟩ := h
  exact ⟨D, ⟨es, clock, (hf.block b (lt_of_block hb) hF).trans hb, F', hs, hD⟩, h2, h3⟩
theorem MapS.keep {w w' : World} {b c : Nat} {M : α → Option Value} (h : MapS C w b c M) (hb : Below w.heap.size w w') : MapS C w' b c M := h.fr (F := fun _ => False) (Fr.of_below hb) id
theorem MapS.new (w : World) : MapS C (w.alloc (.map #[] 0)) w.heap.size 0 (fun _ => none) :=
  ⟨.map [], World.ownsMap_made _ _ _ _, rfl, ⟨fun _ _ => rfl, (fun _ _ _ h => by cases h)⟩⟩
theorem MapS.empty {w : World} {b : Nat} {M : α → Option Value} (h : MapS C w b 0 M) (s : α) (hs : C.ok s) : M s = none := by
  obtain ⟨D, h1, h2, h3⟩ := h
  have := h3.is s hs
  obtain ⟨es, hD⟩ := h1.isMap
  subst hD
  have : es = [] := List.eq_nil_of_length_eq_zero h2
  subst this
  cases hM : M s with
  | none => rfl
  | some v =>
    have := h3.is s hs
    rw [hM] at this
    simp [Maps.has] at this
section
variable {w : World} {b c : Nat} {M : α → Option Value} {t e : TypeId}
/-- 'v, ok := m[s]'. -/
theorem MapS.look_ok (ht : P.underlying t = some (.map k e)) (h : MapS C w b c M) {z : Value} (hz : (zeroValue e).run P w = .ok z w) {s : α} (hs : C.ok s) :
    (Instr.lookup t (.map (some b)) (C.vl s) true).run P w = .ok (.tuple #[(M s).getD z, .bool (M s).isSome]) w := by
  obtain ⟨D, h1, h2, h3⟩ := h
  obtain ⟨v, ps, hr, hv⟩ := h1.look_ok C.keyed ht hz (zd := .held z) (zp := []) rfl (C.kmk _ hs)
  rw [hr, h3.is s hs]
  have hv : some (DataW.held v, ([] : List MemPlace)) = some (D.atKey (C.kl s) (.held z), ps) := hv
  injection hv with hv
  injection hv with hv _
  cases hM : M s with
  | none =>
    have hh := h3.is s hs
    rw [hM] at hh
    rw [atKey_of_not_has (by simpa using hh)] at hv
    injection hv with hv
    rw [hv]; rfl
  | some u =>
    rw [h3.at_ s u hs hM] at hv
    injection hv with hv
    rw [hv]; rfl
/-- 'm[s]'. -/
theorem MapS.look (ht : P.underlying t = some (.map k e)) (h : MapS C w b c M) {z : Value} (hz : (zeroValue e).run P w = .ok z w) {s : α} (hs : C.ok s) :
    (Instr.lookup t (.map (some b)) (C.vl s) false).run P w = .ok ((M s).getD z) w := by
  obtain ⟨D, h1, h2, h3⟩ := h
  obtain ⟨v, ps, hr, hv⟩ := h1.lookup C.keyed ht hz (zd := .held z) (zp := []) rfl (C.kmk _ hs)
  rw [hr]
  have hv : some (DataW.held v, ([] : List MemPlace)) = some (D.atKey (C.kl s) (.held z), ps) := hv
  injection hv with hv
  injection hv with hv _
  cases hM : M s with
  | none =>
    have hh := h3.is s hs
    rw [hM] at hh
    rw [atKey_of_not_has (by simpa using hh)] at hv
    injection hv with hv
    rw [hv]; rfl
  | some u =>
    rw [h3.at_ s u hs hM] at hv
    injection hv with hv
    rw [hv]; rfl
/-- 'len(m)'. -/
theorem MapS.len (ht : P.underlying t = some (.map k e)) (h : MapS C w b c M) (ty : TypeId) : (Builtin.len_ #[t] ty #[.map (some b)]).run P w = .ok (.int .i64 (c : Int)) w := by
  obtain ⟨D, h1, h2, h3⟩ := h
  rw [h1.len ht ty, h2]
theorem fr_turned {w w' : World} (h : w.mapTurned w' b) : Fr (fun k => k = b) w w' := by
  have hg := h.grown
  exact ⟨hg.os, hg.tape, hg.output, hg.size, fun k hk hF => hg.block k hk (fun e => hF (by injection e with e))⟩
/-- 'm[s] = v'. -/
theorem MapS.store [DecidableEq α] (ht : P.underlying t = some (.map k e)) (h : MapS C w b c M) (hc : c < maxLen) {s : α} (hs : C.ok s) (v : Value) :
    ∃ w', (Instr.mapUpdate t (.map (some b)) (C.vl s) v).run P w = .ok () w' ∧ MapS C w' b (if (M s).isSome then c else c + 1) (fun x => if x = s then some v else M x) ∧ Fr (fun k => k = b) w w' := by
  obtain ⟨D, h1, h2, h3⟩ := h
  obtain ⟨w', hr, ho, hm⟩ := h1.store C.keyed ht hc (C.kmk _ hs) (show el v = some (.held v, []) from rfl)
  have hT := h1.tidy C.keyed
  have hsz : Maps.size (D.put (C.kl s) (.held v)) = if (M s).isSome then c else c + 1 := by rw [size_put hT, h3.is s hs, h2]
  refine ⟨w', hr, ⟨D.put (C.kl s) (.held v), by rw [← hsz]; exact tight ho, hsz, ⟨fun x hx => ?_, fun x u hx hu z => ?_⟩⟩, fr_turned hm⟩
  · by_cases e : x = s
    · subst e; rw [has_put_same hT.isMap (C.isKey x)]; try simp
    · rw [has_put_other (fun h => e (C.inj h)), h3.is x hx, if_neg e]
  · by_cases e : x = s
    · subst e
      rw [if_pos rfl] at hu
      injection hu with hu
      rw [atKey_put_same hT.isMap (C.isKey x), hu]
    · rw [if_neg e] at hu
      rw [atKey_put_other (fun h => e (C.inj h))]
      exact h3.at_ x u hx hu z
/-- 'delete(m, s)'. -/
theorem MapS.drop [DecidableEq α] (ht : P.underlying t = some (.map k e)) (h : MapS C w b c M) {s : α} (hs : C.ok s) (ty : TypeId) :
    ∃ w', (Builtin.delete_ #[t, k] ty #[.map (some b), C.vl s]).run P w = .ok (.tuple #[]) w' ∧ MapS C w' b (if (M s).isSome then c - 1 else c) (fun x => if x = s then none else M x) ∧ Fr (fun k => k = b) w w' := by
  obtain ⟨D, h1, h2, h3⟩ := h
  obtain ⟨w', hr, ho, hm⟩ := h1.drop C.keyed ht (C.kmk _ hs) ty
  have hT := h1.tidy C.keyed
  have hsz : Maps.size (D.del (C.kl s)) = if (M s).isSome then c - 1 else c := by
    have := size_del (k := C.kl s) hT
    rw [h3.is s hs, h2] at this
    split at this <;> rename_i hh
    · rw [if_pos hh]; omega
    · rw [if_neg hh]; omega
  refine ⟨w', hr, ⟨D.del (C.kl s), by rw [← hsz]; exact tight ho, hsz, ⟨fun x hx => ?_, fun x u hx hu z => ?_⟩⟩, fr_turned hm⟩
  · by_cases e : x = s
    · subst e; rw [has_del_same]; simp
    · rw [has_del_other (fun h => e (C.inj h)), h3.is x hx, if_neg e]
  · by_cases e : x = s
    · subst e; simp at hu
    · rw [if_neg e] at hu
      rw [atKey_del_other (fun h => e (C.inj h))]
      exact h3.at_ x u hx hu z
end
/-! #### going over a map -/
def RangeS (C : KC P k α) (w : World) (b r c : Nat) (M : α → Option Value) (left : α → Bool) (n : Nat) : Prop :=
  ∃ D lf, w.ranges P k el b r c D lf n ∧ Maps.size D = c ∧ Has C D M ∧ ∀ s, C.ok s → lf (C.kl s) = left s
theorem RangeS.fr {w w' : World} {b r c n : Nat} {M : α → Option Value} {left : α → Bool} {F : Nat → Prop} (h : RangeS C w b r c M left n) (hf : Fr F w w') (hF : ¬ F b) (hR : ¬ F r) : RangeS C w' b r c M left n := by
  obtain ⟨D, lf, ⟨es, clock, since, seen, c0, hb, F', hs, hD, hr, h5⟩, h2, h3, h4⟩ := h
  exact ⟨D, lf, ⟨es, clock, since, seen, c0, (hf.block b (lt_of_block hb) hF).trans hb, F', hs, hD, (hf.block r (lt_of_block hr) hR).trans hr, h5⟩, h2, h3, h4⟩
theorem RangeS.keep {w w' : World} {b r c n : Nat} {M : α → Option Value} {left : α → Bool} (h : RangeS C w b r c M left n) (hb : Below w.heap.size w w') : RangeS C w' b r c M left n := h.fr (F := fun _ => False) (Fr.of_below hb) id id
theorem RangeS.map {w : World} {b r c n : Nat} {M : α → Option Value} {left : α → Bool} (h : RangeS C w b r c M left n) : MapS C w b c M := by
  obtain ⟨D, lf, h1, h2, h3, _⟩ := h
  exact ⟨D, h1.owns, h2, h3⟩
section
variable {w : World} {ops : Array Oper} {rest : List Oper} {o : Oper} {a : Act} {Q : Exit → Act → World → Prop} {b r c n : Nat} {M : α → Option Value} {left : α → Bool} {t e : TypeId}
theorem wpList_rangeS (ht : P.underlying t = some (.map k e)) (hg : o.guard = none) (m : Operand) (hop : o.op = Op.range t m) (hm : a.eval m = .map (some b)) (h : MapS C w b c M)
    (hK : ∀ w', RangeS C w' b w.heap.size c M (fun s => (M s).isSome) c → Below w.heap.size w w' → w'.heap.size = w.heap.size + 1 → wpList P ops Q rest (a.put o.dst (.pointer (some ⟨w.heap.size, 0, none⟩))) w') :
    wpList P ops Q (o :: rest) a w := by
  obtain ⟨D, h1, h2, h3⟩ := h
  refine wpList_range_own w hg m t hop k e C.keyed ht el b c D hm h1 (fun w' hr hgr hsz => ?_)
  rw [h2] at hr
  exact hK w' ⟨D, _, hr, h2, h3, fun s hs => h3.is s hs⟩ ⟨hgr.os, hgr.tape, hgr.output, hgr.size, fun i hi => hgr.block i hi (by simp)⟩ hsz
theorem wpList_nextS [DecidableEq α] (hg : o.guard = none) (it : Operand) (hop : o.op = Op.next it false) (hit : a.eval it = .pointer (some ⟨r, 0, none⟩)) (h : RangeS C w b r c M left n)
    (hDone : n = 0 → (∀ s, C.ok s → left s = false) → wpList P ops Q rest (a.put o.dst (.tuple #[.bool false])) w)
    (hMore : ∀ (s : α) (v : Value) (w' : World) (n' : Nat), C.ok s → left s = true → M s = some v → RangeS C w' b r c M (fun x => left x && decide (x ≠ s)) n' → n' < n → Fr (fun k => k = r) w w' → w'.heap.size = w.heap.size →
      (Instr.entry (.pointer (some ⟨r, 0, none⟩))).run P w' = .ok (.tuple #[C.vl s, v]) w' → wpList P ops Q rest (a.put o.dst (.tuple #[.bool true, C.vl s, v])) w') :
    wpList P ops Q (o :: rest) a w := by
  obtain ⟨D, lf, h1, h2, h3, h4⟩ := h
  refine wpList_next_ranges w hg it hop k C.keyed el C.vl (fun v : Value => v) (fun key kl hkey => ?_) (fun v y _ => ⟨v, rfl⟩) b r c D lf n hit h1 (fun h0 hl => hDone h0 (fun s hs => by rw [← h4 s hs]; exact hl _)) ?_
  · obtain ⟨s, hs, _⟩ := C.back _ _ hkey
    exact ⟨s, hs⟩
  · intro s v k' y w' n' hkey hlk hv hat hrg hlt hgr hsz hen
    obtain ⟨s', hs', hk', hsz'⟩ := C.back _ _ hkey
    have hs' := C.vinj hs'
    subst hs'
    subst hk'
    have hy : y = (.held v, []) := (Option.some.inj hv).symm
    subst hy
    have hhas := has_true_of_atKey (k := C.kl s) (y := .held v) (fun z => hat z)
    rw [h3.is s hsz'] at hhas
    obtain ⟨u, hu⟩ := Option.isSome_iff_exists.1 hhas
    have hvu := hat (.held v)
    rw [h3.at_ s u hsz' hu] at hvu
    injection hvu with hvu
    refine hMore s v w' n' hsz' (by rw [← h4 s hsz']; exact hlk) (by rw [hu, hvu]) ⟨D, _, hrg, h2, h3, fun x hx => ?_⟩ hlt ?_ hsz hen
    · show (lf (C.kl x) && !(C.kl x).sameKey (C.kl s)) = (left x && decide (x ≠ s))
      rw [h4 x hx]
      congr 1
      by_cases e : x = s
      · subst e; rw [WideAt.sameKey_self (C.isKey x)]; simp
      · rw [sameKey_ne (fun h => e (C.inj h))]; simp [e]
    · exact ⟨hgr.os, hgr.tape, hgr.output, hgr.size, fun i hi hF => hgr.block i hi (fun e => hF (by injection e with e))⟩
end
end
/-- keys that are numbers. -/
def KC.int {P : Program} {k : TypeId} {q : IntKind} (hk : P.underlying k = some (.int q)) : KC P k Int where
  vl := fun a => .int q a
  kl := fun a => .int q a
  ok := fun a => (Lit.int q a).wf = true
  keyed := int_keyed hk
  inj := fun h => by injection h
  isKey := fun a => by unfold WideAt.IsKeyLit; simp
  vinj := fun h => by injection h
  kmk := fun a h => keyOf_int_mk hk h
  back := fun v l h => by
    obtain ⟨x, e1, e2, e3⟩ := keyOf_int_inv hk h
    exact ⟨x, e1, e2, e3⟩
/-- keys that are strings. -/
def KC.str {P : Program} {k : TypeId} (hk : P.underlying k = some .string) : KC P k ByteArray where
  vl := fun s => .string s
  kl := fun s => .string s.data.toList
  ok := fun s => s.size ≤ maxLen
  keyed := string_keyed hk
  inj := fun h => by injection h with h; exact ByteArray.ext (Array.toList_inj.1 h)
  isKey := fun a => by unfold WideAt.IsKeyLit; simp
  vinj := fun h => by injection h
  kmk := fun a h => WideMaps.keyOf_string_mk hk h
  back := fun v l h => WideMaps.string_of_keyOf hk h
end Go.Proofs.Yteeinckmmbdfoaa.Mg
