import Derived.Test.YtnpiimaapholiaaRf
import Derived.Test.YtnpiimaapholiaaMap
/- Ranges over functions within a loop: the marks that they leave. -/
namespace Go.Proofs.Ytnpiimaapholiaa
set_option linter.unusedSimpArgs false
set_option linter.unusedVariables false
open Go Go.RowKit
def markD (D : Nat) : Deferred := { target := .collected D, args := #[] }
/-- the marks that loops have left, each in a block of its own from B on. -/
structure Marks (B : Nat) (W : World) (Ds : List Nat) : Prop where
  nd : Ds.Nodup
  at_ : ∀ D ∈ Ds, B ≤ D ∧ W.heap[D]? = some (.deferred (some []))
/-- the marks of a frame. -/
def MarkS (B : Nat) (W : World) (ds : List Deferred) : Prop := ∃ Ds, ds = Ds.map markD ∧ Marks B W Ds
theorem MarkS.nil (B : Nat) (W : World) : MarkS B W [] := ⟨[], rfl, ⟨List.nodup_nil, fun D h => by simp at h⟩⟩
section
variable {B : Nat} {W W' : World} {ds : List Deferred}
theorem MarkS.to (h : MarkS B W ds) (hk : ∀ D, B ≤ D → W.heap[D]? = some (.deferred (some [])) → W'.heap[D]? = some (.deferred (some []))) : MarkS B W' ds := by
  obtain ⟨Ds, e, h1⟩ := h
  exact ⟨Ds, e, h1.nd, fun D hD => ⟨(h1.at_ D hD).1, hk D (h1.at_ D hD).1 (h1.at_ D hD).2⟩⟩
theorem MarkS.keep (h : MarkS B W ds) (hb : Below W.heap.size W W') : MarkS B W' ds := h.to (fun D _ hD => (hb.block D (Array.getElem?_eq_some_iff.1 hD).1).trans hD)
theorem MarkS.fr {F : Nat → Prop} (h : MarkS B W ds) (hf : Fr F W W') (hF : ∀ k, F k → W.heap[k]? ≠ some (.deferred (some []))) : MarkS B W' ds :=
  h.to (fun D _ hD => (hf.block D (Array.getElem?_eq_some_iff.1 hD).1 (fun e => hF D e hD)).trans hD)
theorem MarkS.turn {B' : Nat} (h : MarkS B W ds) (ht : Turn B' W W') (hB : ∀ D, markD D ∈ ds → D < B') : MarkS B W' ds := by
  obtain ⟨Ds, rfl, h1⟩ := h
  exact ⟨Ds, rfl, h1.nd, fun D hD => ⟨(h1.at_ D hD).1, ht.block D _ (h1.at_ D hD).2 (.inl (hB D (List.mem_map.2 ⟨D, hD, rfl⟩)))⟩⟩
theorem MarkS.more (h : MarkS B W ds) {D : Nat} (hD : W.heap[D]? = some (.deferred (some []))) (hB : B ≤ D) (hn : markD D ∉ ds) : MarkS B W (markD D :: ds) := by
  obtain ⟨Ds, rfl, h1⟩ := h
  exact ⟨D :: Ds, rfl, List.nodup_cons.2 ⟨fun hm => hn (List.mem_map.2 ⟨D, hm, rfl⟩), h1.nd⟩, fun E hE => by
    rcases List.mem_cons.1 hE with rfl | hE
    · exact ⟨hB, hD⟩
    · exact h1.at_ E hE⟩
/-- all marks lie below. -/
theorem MarkS.lt (h : MarkS B W ds) : ∀ D, markD D ∈ ds → D < W.heap.size := by
  obtain ⟨Ds, rfl, h1⟩ := h
  intro D hD
  obtain ⟨E, hE, e⟩ := List.mem_map.1 hD
  have : E = D := by unfold markD at e; injection e with e1 e2; injection e1
  subst this
  exact (Array.getElem?_eq_some_iff.1 (h1.at_ E hE).2).1
end
theorem no_mark_cells {W : World} {b : Nat} {t : TypeId} {C : Array Value} (h : Blk W b t C) : W.heap[b]? ≠ some (.deferred (some [])) := fun e => by
  rw [show W.heap[b]? = _ from h] at e; cases e
theorem no_mark_map {W : World} {b c : Nat} {k : TypeId} {P : Program} {M : ByteArray → Option Value} (h : Mp.MapS P k W b c M) : W.heap[b]? ≠ some (.deferred (some [])) := fun e => by
  obtain ⟨D, ⟨es, clock, hb, _⟩, _⟩ := h
  rw [hb] at e; cases e
section
variable {P : Program}
theorem leaves_marks {fn : Func} {tmps : Array Value} {w0 : World} {v : Value} {t tp : TypeId} {p : Tmp} {b : Nat} {d : TypeDesc} (hres : fn.results = #[.cell p tp]) (hu : P.underlying tp = some d) (hd : aggD d = false)
    (hp : tmps.getD p undef = .pointer (some ⟨b, 0, none⟩)) (h1 : w0.heap.size ≤ b) : ∀ (Ds : List Nat) (W : World), Blk W b t #[v] → Marks w0.heap.size W Ds → Below w0.heap.size w0 W →
    LeavesInM Fence.wide 0 P fn tmps (fun e w' => e = .returned v ∧ Below w0.heap.size w0 w') (Ds.map markD) .returning W
  | [], W, hb, hm, hl => by
    show LeavesInM Fence.wide 0 P fn tmps _ [] .returning W
    exact ⟨v, results_one hres _ _ b hp (hb.rd 0) hu hd, rfl, hl⟩
  | D :: Ds, W, hb, hm, hl => by
    obtain ⟨hB, hD⟩ := hm.at_ D (List.mem_cons_self ..)
    have hT := Turn.putObj W w0.heap.size D (.deferred none) hB hD rfl
    refine ⟨by simp, .inl ⟨D, W.putObj D (.deferred none), rfl, run_takeDeferred hD, ?_⟩⟩
    refine leaves_marks hres hu hd hp h1 Ds _ (hb.turn hT) ⟨(List.nodup_cons.1 hm.nd).2, fun E hE => ⟨(hm.at_ E (List.mem_cons_of_mem _ hE)).1, ?_⟩⟩ (hT.below hl (Nat.le_refl _))
    have hne : E ≠ D := fun e => (List.nodup_cons.1 hm.nd).1 (e ▸ hE)
    exact (World.putObj_heap_other hne).trans (hm.at_ E (List.mem_cons_of_mem _ hE)).2
/-- a law's end behind any number of such loops. -/
theorem bodyM_laws {fn : Func} {a : Act} {w0 w : World} {v u : Value} {t tp : TypeId} {p : Tmp} {b : Nat} {d : TypeDesc} (hres : fn.results = #[.cell p tp]) (hu : P.underlying tp = some d) (hd : aggD d = false)
    (hdf : MarkS w0.heap.size w a.defers) (hp : a.tmps.getD p undef = .pointer (some ⟨b, 0, none⟩)) (hb : Blk w b t #[u]) (hl : Below w0.heap.size w0 w) (h1 : w0.heap.size ≤ b) :
    bodyQ P fn (fun e w' => e = .returned v ∧ Below w0.heap.size w0 w') .ret a (w.setCell ⟨b, 0, none⟩ v) := by
  have e1 : (#[u] : Array Value).setIfInBounds 0 v = #[v] := rfl
  rw [setCell_obj hb, e1]
  have f1 : Fr (fun k => k = b) w (setObj w b (.cells #[v] t (0, 0))) := fr_one _ _ _
  have hdf2 := hdf.fr f1 (fun k hk => by rw [hk]; exact no_mark_cells hb)
  obtain ⟨Ds, e, hm⟩ := hdf2
  show LeavesInM Fence.wide 0 P fn a.tmps _ a.defers .returning _
  rw [e]
  exact leaves_marks hres hu hd hp h1 Ds _ (setObj_at (lt_of_block hb) _) hm (hl.trans (f1.below hl.size (fun k hk => by omega)))
end
theorem MapS_turn {P : Program} {k : TypeId} {W W' : World} {b c B : Nat} {M : ByteArray → Option Value} (h : Mp.MapS P k W b c M) (ht : Turn B W W') (hB : b < B) : Mp.MapS P k W' b c M := by
  obtain ⟨D, ⟨es, clock, hb, F', hs, hD⟩, h2, h3⟩ := h
  exact ⟨D, ⟨es, clock, ht.block b _ hb (.inl hB), F', hs, hD⟩, h2, h3⟩
end Go.Proofs.Ytnpiimaapholiaa
