/- Maps: a look behind 'm[k] op= v''s entry. -/
import Derived.Test.YteeinckmmbdfoaaAuK
namespace Go.Proofs.Yteeinckmmbdfoaa.Mg
set_option linter.unusedSimpArgs false
set_option linter.unusedVariables false
set_option maxRecDepth 100000
open Go Go.RowKit Go.Maps Go.ChangeShapes Go.WideShapes
open Go.WideMaps (KeyLaw)
open Go.ChangeMaps
section
variable {P : Program} {k : TypeId} {α : Type} {C : KC P k α} {w w' : World} {b c : Nat} {M : α → Option Value} {t e : TypeId}
/-- .. and behind the entry's being found or made a look finds what it held. -/
theorem MapS.entry_look (K : KeyLaw P k) (ht : P.underlying t = some (.map k e)) (h : MapS C w b c M) {z : Value} (hz : ∀ u : World, (zeroValue e).run P u = .ok z u) {s : α} (hs : C.ok s) {v0 : Value} {w1 : World}
    (hrun : (Instr.mapEntry t (.map (some b)) (C.vl s)).run P w = .ok v0 w1) : (Instr.lookup t (.map (some b)) (C.vl s) false).run P w1 = .ok ((M s).getD z) w1 := by
  have hlk := h.look ht (hz w) hs
  obtain ⟨D, ⟨es, clock, hb, F, hsz, hD⟩, h2, h3⟩ := h
  have hkey := C.kmk s hs
  have hblt := lt_of_block hb
  rcases K.find w hkey es.toList F.keys with ⟨g1, g2⟩ | ⟨j, e0, g1, g2, g3⟩
  · have hl : (Instr.lookup t (.map (some b)) (C.vl s) false).run P w = .ok z w := by
      simp [Instr.lookup, run_underlying ht, MapKept.run_getObj_map hb, K.check w es.isEmpty hkey, g1, hz, Result.andThen]
    rw [hlk, Result.ok.injEq] at hl
    have hl := hl.1
    have hr : (Instr.mapEntry t (.map (some b)) (C.vl s)).run P w = .ok (.tuple #[z, goInt clock]) (setBlock w b (.map (es.push ⟨C.vl s, z, clock⟩) (clock + 1))) := by
      simp [Instr.mapEntry, run_underlying ht, MapKept.run_getObj_map hb, K.check w false hkey, g1, hz, MapKept.run_setObj_map _ hb, Result.andThen, setBlock]
    rw [hr] at hrun
    rw [Result.ok.injEq] at hrun
    have hw := hrun.2
    rw [← hw]
    clear hw hr hrun
    obtain ⟨es1, he1⟩ : ∃ q, q = es.push ⟨C.vl s, z, clock⟩ := ⟨_, rfl⟩
    rw [← he1]
    have hb1 := heap_setBlock_same hb (.map es1 (clock + 1))
    obtain ⟨wz, hwz⟩ : ∃ q, q = setBlock w b (.map es1 (clock + 1)) := ⟨_, rfl⟩
    rw [← hwz] at hb1 ⊢
    have hmem : ∀ x ∈ es1.toList, x ∈ es.toList ∨ x = ⟨C.vl s, z, clock⟩ := by
      intro x hx
      rw [he1, Array.toList_push, List.mem_append, List.mem_singleton] at hx
      exact hx
    have hks : ∀ x ∈ es1.toList, ∃ l, keyOf P k x.key = some l := by
      intro x hx
      rcases hmem x hx with hx | hx
      · exact F.keys x hx
      · rw [hx]; exact ⟨_, hkey⟩
    have hin : (⟨C.vl s, z, clock⟩ : MapEntry) ∈ es1.toList := by rw [he1]; simp
    rw [hl]
    clear he1 hwz
    rcases K.find wz hkey _ hks with ⟨q1, q2⟩ | ⟨j, e0, q1, q2, q3⟩
    · exact absurd rfl (q2 _ hin)
    · have hv : e0.val = z := by
        rcases hmem e0 (List.mem_of_getElem? q2) with hm | hm
        · exact absurd q3 (g2 e0 hm)
        · rw [hm]
      simp [Instr.lookup, run_underlying ht, MapKept.run_getObj_map hb1, K.check _ es1.isEmpty hkey, q1, Result.andThen, hv]
  · have hj : es[j]? = some e0 := by simpa using g2
    have hr : (Instr.mapEntry t (.map (some b)) (C.vl s)).run P w = .ok (.tuple #[e0.val, goInt e0.born]) (setBlock w b (.map (es.modify j (fun e => { e with key := C.vl s })) clock)) := by
      simp [Instr.mapEntry, run_underlying ht, MapKept.run_getObj_map hb, K.check w false hkey, g1, hj, g3, K.stays w hkey, MapKept.run_setObj_map _ hb, Result.andThen, setBlock]
    have hsame : es.modify j (fun e => { e with key := C.vl s }) = es := by
      apply Array.ext'
      rw [Array.toList_modify, modify_eq_set _ _ _ _ g2]
      have : ({ e0 with key := C.vl s } : MapEntry) = e0 := by rw [← g3]
      rw [this]
      exact WideElems.set_self _ _ _ g2
    have hww : setBlock w b (.map es clock) = w := by
      unfold setBlock
      have : w.heap.setIfInBounds b (.map es clock) = w.heap := by
        apply Array.ext_getElem?
        intro i
        rw [Array.getElem?_setIfInBounds]
        by_cases q : b = i
        · subst q; rw [if_pos rfl, hb]; simp [hblt]
        · rw [if_neg q]
      rw [this]
    rw [hr, hsame, hww] at hrun
    rw [Result.ok.injEq] at hrun
    have hw := hrun.2
    rw [← hw]
    exact hlk
end
end Go.Proofs.Yteeinckmmbdfoaa.Mg
