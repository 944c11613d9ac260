/- Maps with keys of a rule and a string, and the statement 'm[k] op= v' at keys that are structs. -/
import Derived.Test.YteeinckmmbdfoaaProg
import Derived.Test.YteeinckmmbdfoaaMapG
import Derived.DeepKeys4
import Derived.WideKeyEntry
namespace Go.Proofs.Yteeinckmmbdfoaa.Mg
set_option linter.unusedSimpArgs false
set_option linter.unusedVariables false
set_option maxRecDepth 100000
open Go Go.RowKit Go.Maps Go.ChangeShapes Go.WideShapes
open Go.WideMaps (KeyLaw)
open Go.ChangeMaps (setBlock heap_setBlock_same heap_setBlock_other)
section
variable {P : Program} {k : TypeId} {α : Type} {C : KC P k α} {w w' : World} {b c : Nat} {M : α → Option Value} {t e : TypeId}
theorem MapS.of_block (h : MapS C w b c M) (hb : w'.heap[b]? = w.heap[b]?) : MapS C w' b c M := by
  obtain ⟨D, ⟨es, clock, hb', F', hs, hD⟩, h2, h3⟩ := h
  exact ⟨D, ⟨es, clock, hb.trans hb', F', hs, hD⟩, h2, h3⟩
theorem fr_block {o : Obj} (w : World) (b : Nat) : Fr (fun k => k = b) w (setBlock w b o) ∧ (setBlock w b o).heap.size = w.heap.size := by
  have hz : (setBlock w b o).heap.size = w.heap.size := by simp [setBlock]
  exact ⟨⟨rfl, rfl, rfl, by rw [hz]; exact Nat.le_refl _, fun k _ hk => by simp [setBlock, Array.getElem?_setIfInBounds, show ¬ b = k from fun e => hk e.symm]⟩, hz⟩
/-- 'm[s] op= v': the entry is found or made, then stored into. -/
theorem MapS.entry [DecidableEq α] (K : KeyLaw P k) (ht : P.underlying t = some (.map k e)) (h : MapS C w b c M) (hc : c < maxLen) {z : Value} (hz : ∀ u : World, (zeroValue e).run P u = .ok z u) {s : α} (hs : C.ok s) :
    ∃ (st : Nat) (w1 : World), (Instr.mapEntry t (.map (some b)) (C.vl s)).run P w = .ok (.tuple #[(M s).getD z, (.int .i64 (st : Int))]) w1 ∧ Fr (fun k => k = b) w w1 ∧ w1.heap.size = w.heap.size ∧
      ∀ (w2 : World) (v : Value), w2.heap[b]? = w1.heap[b]? → ∃ w3, (Instr.entryStore t (.map (some b)) (.int .i64 (st : Int)) v).run P w2 = .ok () w3 ∧ MapS C w3 b (if (M s).isSome then c else c + 1) (fun x => if x = s then some v else M x) ∧ Fr (fun k => k = b) w2 w3 ∧ w3.heap.size = w2.heap.size := by
  have hlk := h.look ht (hz w) hs
  have hst := fun v => h.store ht hc hs v
  obtain ⟨D, ⟨es, clock, hb, F, hsz, hD⟩, h2, h3⟩ := h
  have hkey := C.kmk s hs
  have hblt := lt_of_block hb
  obtain ⟨v0, st, es1, clock1, hrun, hv0, hnext⟩ := WideElems.entry_then_store K ht hz hb F hkey
  have hval : v0 = (M s).getD z := by
    rcases K.find w hkey es.toList F.keys with ⟨g1, g2⟩ | ⟨j, e0, g1, g2, g3⟩
    · have hl : (Instr.lookup t (.map (some b)) (C.vl s) false).run P w = .ok z w := by
        simp [Instr.lookup, run_underlying ht, MapKept.run_getObj_map hb, K.check w es.isEmpty hkey, g1, hz, Result.andThen]
      rw [hlk] at hl
      injection hl with hl
      rcases hv0 with ⟨e1, he1, hk1, _⟩ | ⟨_, hv⟩
      · exact absurd hk1 (g2 e1 he1)
      · rw [hv, hl]
    · have hl : (Instr.lookup t (.map (some b)) (C.vl s) false).run P w = .ok e0.val w := by
        simp [Instr.lookup, run_underlying ht, MapKept.run_getObj_map hb, K.check w es.isEmpty hkey, g1, hz, Result.andThen]
      rw [hlk] at hl
      injection hl with hl
      have hj : es[j]? = some e0 := by simpa using g2
      have hr : ∃ w1, (Instr.mapEntry t (.map (some b)) (C.vl s)).run P w = .ok (.tuple #[e0.val, goInt e0.born]) w1 := by
        refine ⟨setBlock w b (.map (es.modify j (fun e => { e with key := C.vl s })) clock), ?_⟩
        simp [Instr.mapEntry, run_underlying ht, MapKept.run_getObj_map hb, K.check w false hkey, g1, hj, g3, K.stays w hkey, MapKept.run_setObj_map _ hb, Result.andThen, setBlock]
      obtain ⟨w1, hr⟩ := hr
      rw [hrun] at hr
      injection hr with hr _
      injection hr with hr
      have : (#[v0, goInt st] : Array Value)[0]? = (#[e0.val, goInt e0.born] : Array Value)[0]? := by rw [hr]
      rw [hl]
      exact Option.some.inj this
  obtain ⟨f1, z1⟩ := fr_block (o := .map es1 clock1) w b
  refine ⟨st, _, by rw [← hval]; exact hrun, f1, z1, fun w2 v hw2 => ?_⟩
  rw [heap_setBlock_same hb] at hw2
  obtain ⟨es', clock', hr, hu⟩ := hnext w2 v hw2
  obtain ⟨w', hu', hm, _⟩ := hst v
  rw [hu] at hu'
  injection hu' with _ hu'
  obtain ⟨f2, z2⟩ := fr_block (o := .map es' clock') w2 b
  refine ⟨_, hr, hm.of_block ?_, f2, z2⟩
  rw [← hu', heap_setBlock_same hb, heap_setBlock_same hw2]
end
end Go.Proofs.Yteeinckmmbdfoaa.Mg
namespace Go.Proofs.Yteeinckmmbdfoaa
open Go Go.RowKit Go.Maps
open Go.WideMaps (KeyLaw)
/-- a rule and a key that may be keys of a map. -/
structure Who where
  r : Int
  s : ByteArray
  ok : (Lit.int .i64 r).wf = true ∧ s.size ≤ maxLen
theorem Who.ext {x y : Who} (h1 : x.r = y.r) (h2 : x.s = y.s) : x = y := by
  obtain ⟨a, b, c⟩ := x
  obtain ⟨d, e, f⟩ := y
  dsimp only at h1 h2
  subst h1 h2
  rfl
instance : DecidableEq Who := fun x y => if h : x.r = y.r ∧ x.s = y.s then isTrue (Who.ext h.1 h.2) else isFalse (fun e => h (by rw [e]; exact ⟨rfl, rfl⟩))
def whoV (x : Who) : Value := .agg #[.int .i64 x.r, .string x.s]
def whoL (x : Who) : Lit := .string (keyBytes [.int .i64 x.r, .string x.s.data.toList])
theorem who_laid : laidOutB Try.prog = true := by kernel_rfl
theorem who_wide : (match Try.prog.underlying 31 with | some (.array _ _) | some (.struct _) => true | _ => false) = true := by kernel_rfl
theorem who_law : KeyLaw Try.prog 31 := deep_law_laid who_laid (m := 2) (by omega) (of_decide_eq_true (by kernel_rfl)) (by kernel_rfl) who_wide
theorem who_c31 : Try.prog.cellsOf 31 = 2 := by kernel_rfl
theorem who_c3 : Try.prog.cellsOf 3 = 1 := by kernel_rfl
theorem who_c9 : Try.prog.cellsOf 9 = 1 := by kernel_rfl
theorem who_kt : Try.prog.keyType 31 = true := by kernel_rfl
theorem who_size : ∃ m, Try.prog.types.size = m + 1 := by
  have h : 0 < Try.prog.types.size := of_decide_eq_true (by kernel_rfl)
  exact ⟨_, (Nat.sub_add_cancel h).symm⟩
theorem who_key (x : Who) : keyOf Try.prog 31 (whoV x) = some (whoL x) := by
  obtain ⟨r, s, h1, h2⟩ := x
  obtain ⟨m, hm⟩ := who_size
  have u3 := Try.underlying3
  have u9 := Try.underlying9
  unfold whoV whoL keyOf
  simp only [Try.underlying31]
  rw [if_pos (by simp [who_kt, Value.formed, Try.underlying31, who_c31]), hm]
  unfold Program.keyLits
  simp only [Try.underlying31, Value.cells]
  rw [if_pos (by rw [who_c31]; exact ⟨rfl, by simp⟩)]
  simp [who_c3, who_c9, Program.keyLits, u3, u9, h1, h2]
theorem who_back (v : Value) (l : Lit) (h : keyOf Try.prog 31 v = some l) : ∃ x : Who, v = whoV x ∧ l = whoL x := by
  obtain ⟨xs, L, rfl, hl, rfl⟩ := keyOf_top who_wide h
  obtain ⟨m, hm⟩ := who_size
  have u3 := Try.underlying3
  have u9 := Try.underlying9
  rw [hm] at hl
  unfold Program.keyLits at hl
  simp only [Try.underlying31] at hl
  split at hl
  · rename_i hc
    obtain ⟨xl⟩ := xs
    have hlen : xl.length = 2 := by rw [← who_c31]; exact hc.1
    match xl, hlen with
    | [a, b], _ =>
      simp [who_c3, who_c9] at hl
      cases q1 : Try.prog.keyLits (m + 1) 3 [a] with
      | none => simp [q1] at hl
      | some l1 =>
        cases q2 : Try.prog.keyLits (m + 1) 9 [b] with
        | none => simp [q1, q2] at hl
        | some l2 =>
          simp [q1, q2] at hl
          obtain ⟨n, e1, e2⟩ := keyLits_int' u3 q1
          obtain ⟨s, e3, e4⟩ := keyLits_string' u9 q2
          injection e1 with e1 _
          injection e3 with e3 _
          subst e1 e3 e2 e4 hl
          simp [Program.keyLits, u3] at q1
          simp [Program.keyLits, u9] at q2
          exact ⟨⟨n, s, q1, q2⟩, rfl, rfl⟩
  · cases hl
theorem whoV_inj {s t : Who} (h : whoV s = whoV t) : s = t := by
  unfold whoV at h
  injection h with h
  injection h with h
  injection h with e1 h
  injection h with e2 _
  injection e1 with _ e1
  injection e2 with e2
  exact Who.ext e1 e2
def whoC : Mg.KC Try.prog 31 Who where
  vl := whoV
  kl := whoL
  ok := fun _ => True
  keyed := Keyed.of_law who_law
  inj := fun {s t} h => whoV_inj (who_law.inj (who_key s) (by rw [h]; exact who_key t))
  isKey := fun s => by unfold WideAt.IsKeyLit whoL; simp
  vinj := whoV_inj
  kmk := fun s _ => who_key s
  back := fun v l h => by obtain ⟨x, h1, h2⟩ := who_back v l h; exact ⟨x, h1, h2, trivial⟩
end Go.Proofs.Yteeinckmmbdfoaa
