/- Arguments that are configurations by value: three numbers and a slice of rules. -/
import Derived.Test.YtfpknklnbgmflaaCfH
import Derived.Test.YtfpknklnbgmflaaRowF
namespace Go.Proofs.Ytfpknklnbgmflaa
set_option linter.unusedSimpArgs false
set_option linter.unusedVariables false
open Go.ChangeShapes Go.WideShapes Go.ChangeAt Go.RowKit Go.Deep Go.Joins
section
variable {H : Type} {enc : TypeId × Value → H} {P : Program}
/-- a slice of structs of one-cell fields that stands in a cell. -/
theorem open_rdF1 {W : World} {base fuel : Nat} {t e : TypeId} {fs : Array Field} {u : Value} {x : DataW H × List MemPlace} (ht : P.underlying t = some (.slice e)) (he : P.underlying e = some (.struct fs))
    (hone : oneCellFields P fs = true) (hC : P.cellsOf e = fs.size) (hpos : 0 < fs.size)
    (hf : DataW.trod enc P W base (fun _ => true) true fuel t [u] = some x) :
    ∃ A n c V, u = .slice A n c ∧ RdF W A n c fs.size V ∧ ∀ i, i < n → ∀ (j : Nat) (f : Field), fs[j]? = some f → ∃ N y, DataW.trod enc P W base (fun _ => true) true N f.type [V i j] = some y := by
  rcases open_slice ht hf with ⟨hcs, _⟩ | ⟨a, len', cap', m, N, D, Pl, hcs, _, hl, hm, hmm, _, hi⟩
  · simp only [List.cons.injEq, and_true] at hcs
    exact ⟨none, 0, 0, fun _ _ => (.bool false), hcs, ⟨Nat.le_refl _, Nat.zero_le _, fun h => absurd h (by omega)⟩, fun i hi => absurd hi (by omega)⟩
  · simp only [List.cons.injEq, and_true] at hcs
    subst hcs
    simp only [if_true] at hmm
    subst hmm
    rw [hC] at hi
    have each : ∀ i, ∃ cs' : List Value, i < len' → (∀ j, j < fs.size → W.cell? ((a.add (i * fs.size)).add j) = some (cs'.getD j (.bool false))) ∧ ∀ (j : Nat) (f : Field), fs[j]? = some f → ∃ N y, DataW.trod enc P W base (fun _ => true) true N f.type [cs'.getD j (.bool false)] = some y := by
      intro i
      by_cases hil : i < len'
      · obtain ⟨cs', hc, ht'⟩ := hi i (by omega)
        obtain ⟨_, hcl, hat⟩ := World.cells?_some hc
        obtain ⟨ys, n', hn', hy, hlen, hyl, hf'⟩ := DataW.trod_struct he ht'
        refine ⟨cs', fun _ => ⟨fun j hj => ?_, fun j f hj => ?_⟩⟩
        · rw [hat j hj, List.getElem?_eq_getElem (by omega)]
          simp [List.getD, List.getElem?_eq_getElem (show j < cs'.length by omega)]
        · obtain ⟨ho, hk⟩ := hone_of hone j f hj
          have hjl : j < fs.size := (Array.getElem?_eq_some_iff.1 hj).1
          have h1 := hf' j f hj
          rw [ho, hk] at h1
          have hone' : (cs'.drop j).take 1 = [cs'.getD j (.bool false)] := by
            rw [List.drop_eq_getElem_cons (by omega), List.take_succ_cons, List.take_zero]
            simp [List.getD, List.getElem?_eq_getElem (show j < cs'.length by omega)]
          rw [hone'] at h1
          exact ⟨n', _, h1.trans (List.getElem?_eq_getElem (by omega))⟩
      · exact ⟨[], fun h => absurd h hil⟩
    obtain ⟨G, hch⟩ := Classical.axiomOfChoice each
    clear each
    refine ⟨_, _, _, fun i j => (G i).getD j (.bool false), rfl, ⟨hl, hm, fun hn => ?_⟩, fun i hil j f hj => (hch i hil).2 j f hj⟩
    obtain ⟨b, off, s⟩ := a
    have h0 := (hch 0 hn).1 0 hpos
    have hs := plain_of_cell h0
    have hlt := lt_of_cell h0
    rw [block_add, block_add] at hlt
    have : s = none := by
      unfold Addr.add at hs
      simpa using hs
    subst this
    refine ⟨b, off, rfl, hlt, fun i j hi hj => ?_⟩
    have := (hch i hi).1 j hj
    rw [add_plain, add_plain] at this
    exact this
theorem row_bool {W : World} {base : Nat} {t : TypeId} {v : Value} (ht : P.underlying t = some .bool) (h : ∃ N y, DataW.trod enc P W base (fun _ => true) true N t [v] = some y) :
    ∃ b : Bool, v = .bool b := by
  obtain ⟨N, y, h⟩ := h
  obtain ⟨b, h1, _⟩ := DataW.trod_bool ht h
  simp only [List.cons.injEq, and_true] at h1
  exact ⟨b, h1⟩
theorem rules_of {W : World} {base : Nat} {A : Option Addr} {n c : Nat} {V : Nat → Nat → Value} {g0 g1 g2 g3 g4 g5 g6 g7 g8 : Field} (R : RdF W A n c 9 V)
    (hV : ∀ i, i < n → ∀ (j : Nat) (f : Field), #[g0, g1, g2, g3, g4, g5, g6, g7, g8][j]? = some f → ∃ N y, DataW.trod enc P W base (fun _ => true) true N f.type [V i j] = some y)
    (k0 : P.underlying g0.type = some (.int .i64)) (k1 : P.underlying g1.type = some (.int .i64)) (k2 : P.underlying g2.type = some (.int .i64)) (k3 : P.underlying g3.type = some (.int .i64)) (k4 : P.underlying g4.type = some (.int .i64)) (k5 : P.underlying g5.type = some (.int .i64)) (k6 : P.underlying g6.type = some (.int .i64)) (k7 : P.underlying g7.type = some (.int .i64)) (k8 : P.underlying g8.type = some .bool) : ∃ rs, RdRu W A n c rs := by
  have each : ∀ i, ∃ r : RuZ, i < n → (∀ j, j < 9 → some (V i j) = r.c[j]?) ∧ r.ok := by
    intro i
    by_cases hi : i < n
    · obtain ⟨a0, e0, f0⟩ := row_i64 k0 (hV i hi 0 g0 rfl)
      obtain ⟨a1, e1, f1⟩ := row_i64 k1 (hV i hi 1 g1 rfl)
      obtain ⟨a2, e2, f2⟩ := row_i64 k2 (hV i hi 2 g2 rfl)
      obtain ⟨a3, e3, f3⟩ := row_i64 k3 (hV i hi 3 g3 rfl)
      obtain ⟨a4, e4, f4⟩ := row_i64 k4 (hV i hi 4 g4 rfl)
      obtain ⟨a5, e5, f5⟩ := row_i64 k5 (hV i hi 5 g5 rfl)
      obtain ⟨a6, e6, f6⟩ := row_i64 k6 (hV i hi 6 g6 rfl)
      obtain ⟨a7, e7, f7⟩ := row_i64 k7 (hV i hi 7 g7 rfl)
      obtain ⟨sm, e8⟩ := row_bool k8 (hV i hi 8 g8 rfl)
      refine ⟨⟨a0, a1, a2, a3, a4, a5, a6, a7, sm⟩, fun _ => ⟨fun j hj => ?_, f0, f1, f2, f3, f4, f5, f6, f7⟩⟩
      match j, hj with
      | 0, _ => rw [e0]; rfl
      | 1, _ => rw [e1]; rfl
      | 2, _ => rw [e2]; rfl
      | 3, _ => rw [e3]; rfl
      | 4, _ => rw [e4]; rfl
      | 5, _ => rw [e5]; rfl
      | 6, _ => rw [e6]; rfl
      | 7, _ => rw [e7]; rfl
      | 8, _ => rw [e8]; rfl
      | j + 9, h => omega
    · exact ⟨⟨0, 0, 0, 0, 0, 0, 0, 0, false⟩, fun h => absurd h hi⟩
  obtain ⟨G, hG⟩ := Classical.axiomOfChoice each
  refine ⟨(List.range n).map G, R.cap, R.max, by simp, fun hn => ?_, fun r hr => ?_⟩
  · obtain ⟨b, off, e, hlt, hc⟩ := R.at_ hn
    refine ⟨b, off, e, hlt, fun i hi j hj => ?_⟩
    have hin : i < n := by simpa using hi
    rw [hc i j hin hj, (hG i hin).1 j hj]
    simp
  · obtain ⟨i, hi, rfl⟩ := List.mem_map.1 hr
    exact (hG i (List.mem_range.1 hi)).2
theorem open_cfg {W : World} {base : Nat} {r : Reach} {b0 : Nat} {t e : TypeId} {f0 f1 f2 f3 g0 g1 g2 g3 g4 g5 g6 g7 g8 : Field} {v : Value} {d : DataW H} {p : List MemPlace} (hs : P.underlying t = some (.struct #[f0, f1, f2, f3])) (hone : oneCellFields P #[f0, f1, f2, f3] = true) (hC : P.cellsOf t = 4)
    (q0 : P.underlying f0.type = some (.int .i64)) (q1 : P.underlying f1.type = some (.int .i64)) (q2 : P.underlying f2.type = some (.int .i64)) (q3 : P.underlying f3.type = some (.slice e))
    (he : P.underlying e = some (.struct #[g0, g1, g2, g3, g4, g5, g6, g7, g8])) (honeE : oneCellFields P #[g0, g1, g2, g3, g4, g5, g6, g7, g8] = true) (hCE : P.cellsOf e = 9)
    (k0 : P.underlying g0.type = some (.int .i64)) (k1 : P.underlying g1.type = some (.int .i64)) (k2 : P.underlying g2.type = some (.int .i64)) (k3 : P.underlying g3.type = some (.int .i64)) (k4 : P.underlying g4.type = some (.int .i64)) (k5 : P.underlying g5.type = some (.int .i64)) (k6 : P.underlying g6.type = some (.int .i64)) (k7 : P.underlying g7.type = some (.int .i64)) (k8 : P.underlying g8.type = some .bool)
    (hv : Value.okWide P W r b0 t v) (h : DataW.Trod enc P W base (fun _ => true) true t v d p) :
    ∃ (Bu Co Ou : Int) (A : Option Addr) (n c : Nat) (rs : List RuZ), v = .agg #[.int .i64 Bu, .int .i64 Co, .int .i64 Ou, .slice A n c] ∧ (i64In Bu ∧ i64In Co ∧ i64In Ou) ∧ RdRu W A n c rs := by
  obtain ⟨cs, N, rfl, hsz, hf⟩ := open_fields hs hone hC hv h
  obtain ⟨u0, y0, c0, t0⟩ := hf 0 f0 rfl
  obtain ⟨u1, y1, c1, t1⟩ := hf 1 f1 rfl
  obtain ⟨u2, y2, c2, t2⟩ := hf 2 f2 rfl
  obtain ⟨u3, y3, c3, t3⟩ := hf 3 f3 rfl
  obtain ⟨Bu, rfl, h0⟩ := cell_int q0 t0
  obtain ⟨Co, rfl, h1⟩ := cell_int q1 t1
  obtain ⟨Ou, rfl, h2⟩ := cell_int q2 t2
  obtain ⟨A, n, c, V, rfl, R, hV⟩ := open_rdF1 q3 he honeE hCE (by simp) t3
  obtain ⟨rs, hr⟩ := rules_of R hV k0 k1 k2 k3 k4 k5 k6 k7 k8
  refine ⟨Bu, Co, Ou, A, n, c, rs, ?_, ⟨bounds_i64 h0, bounds_i64 h1, bounds_i64 h2⟩, hr⟩
  congr 1
  apply Array.ext_getElem?
  intro i
  match i with
  | 0 => exact c0
  | 1 => exact c1
  | 2 => exact c2
  | 3 => exact c3
  | i + 4 => rw [Array.getElem?_eq_none (by have : cs.size = 4 := hsz; omega), Array.getElem?_eq_none (by simp)]
end
end Go.Proofs.Ytfpknklnbgmflaa
