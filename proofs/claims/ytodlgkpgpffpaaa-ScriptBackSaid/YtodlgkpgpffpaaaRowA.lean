/- Arguments that are slices of acts, opened. -/
import Derived.Test.YtodlgkpgpffpaaaRowC
import Derived.Test.YtodlgkpgpffpaaaScG
namespace Go.Proofs.Ytodlgkpgpffpaaa
open Go.ChangeShapes Go.WideShapes Go.ChangeAt Go.RowKit Go.Deep
/-- an act as it lies, with what its slices hold. -/
structure HoldA (w : World) (a : ActV) (c : ActC) : Prop where
  kind : a.kind = c.kind
  clock : a.clock = c.clock
  conn : a.conn = c.conn
  n : a.n = c.n
  data : RdI w .u8 a.A a.dl a.dc c.data
  seeds : RdI w .u64 a.B a.sl a.sc c.seeds
theorem HoldA.below {w w' : World} {a : ActV} {c : ActC} (h : HoldA w a c) (hb : Below w.heap.size w w') : HoldA w' a c :=
  ⟨h.kind, h.clock, h.conn, h.n, h.data.below hb, h.seeds.below hb⟩
theorem Held.hold {w : World} {base : Nat} {row : Option Nat} {a : ActV} {c : ActC} (h : Held w base row a c) : HoldA w a c := ⟨h.kind, h.clock, h.conn, h.n, h.data, h.seeds⟩
structure i64A (c : ActC) : Prop where
  kind : -9223372036854775808 ≤ c.kind ∧ c.kind ≤ 9223372036854775807
  clock : -9223372036854775808 ≤ c.clock ∧ c.clock ≤ 9223372036854775807
  conn : -9223372036854775808 ≤ c.conn ∧ c.conn ≤ 9223372036854775807
  n : -9223372036854775808 ≤ c.n ∧ c.n ≤ 9223372036854775807
/-- A slice of acts. -/
structure RdA (w : World) (A : Option Addr) (n c : Nat) (ls : List ActV) (cs : List ActC) : Prop where
  len : ls.length = n
  lenc : cs.length = n
  cap : n ≤ c
  max : c ≤ maxLen
  at_ : 0 < n → ∃ b off, A = some ⟨b, off, none⟩ ∧ b < w.heap.size ∧ ∀ (j : Nat) (h : j < ls.length) (i : Nat), i < 6 → w.cell? ⟨b, off + j * 6 + i, none⟩ = (ls[j]).cells[i]?
  hold : ∀ (j : Nat) (h : j < ls.length) (h' : j < cs.length), HoldA w ls[j] cs[j]
theorem RdA.below {w w' : World} {A : Option Addr} {n c : Nat} {ls : List ActV} {cs : List ActC} (h : RdA w A n c ls cs) (hb : Below w.heap.size w w') : RdA w' A n c ls cs :=
  ⟨h.len, h.lenc, h.cap, h.max, fun hn => by
    obtain ⟨b, off, e, hlt, hc⟩ := h.at_ hn
    exact ⟨b, off, e, Nat.lt_of_lt_of_le hlt hb.size, fun j hj i hi => by rw [hb.cell (p := ⟨b, off + j * 6 + i, none⟩) hlt]; exact hc j hj i hi⟩, fun j hj hj' => (h.hold j hj hj').below hb⟩
section
variable {H : Type} {enc : TypeId × Value → H} {P : Program}
theorem open_rdA {W : World} {base : Nat} {r : Reach} {b0 : Nat} {t e eb es : TypeId} {f0 f1 f2 f3 f4 f5 : Field} {v : Value} {d : DataW H} {p : List MemPlace} (ht : P.underlying t = some (.slice e)) (he : P.underlying e = some (.struct #[f0, f1, f2, f3, f4, f5]))
    (hone : oneCellFields P #[f0, f1, f2, f3, f4, f5] = true) (hC : P.cellsOf e = 6) (k0 : P.underlying f0.type = some (.int .i64)) (k1 : P.underlying f1.type = some (.int .i64)) (k2 : P.underlying f2.type = some (.int .i64))
    (k3 : P.underlying f3.type = some (.slice eb)) (k3b : P.underlying eb = some (.int .u8)) (k3c : P.cellsOf eb = 1) (k4 : P.underlying f4.type = some (.int .i64)) (k5 : P.underlying f5.type = some (.slice es)) (k5b : P.underlying es = some (.int .u64)) (k5c : P.cellsOf es = 1)
    (hv : Value.okWide P W r b0 t v) (h : DataW.Trod enc P W base (fun _ => true) true t v d p) : ∃ A n c ls cs, v = .slice A n c ∧ RdA W A n c ls cs ∧ ∀ a ∈ cs, i64A a := by
  obtain ⟨A, n, c, V, rfl, R0, hV⟩ := open_rdF ht he hone hC (by simp) hv h
  have R : RdF W A n c 6 V := R0
  have each : ∀ i, ∃ r : ActV × ActC, i < n → (∀ j, j < 6 → some (V i j) = r.1.cells[j]?) ∧ HoldA W r.1 r.2 ∧ i64A r.2 := by
    intro i
    by_cases hi : i < n
    · obtain ⟨a0, e0, h0⟩ := row_i64 k0 (hV i hi 0 f0 rfl)
      obtain ⟨a1, e1, h1⟩ := row_i64 k1 (hV i hi 1 f1 rfl)
      obtain ⟨a2, e2, h2⟩ := row_i64 k2 (hV i hi 2 f2 rfl)
      obtain ⟨A3, n3, c3, z3, e3, h3⟩ := row_rdI k3 k3b k3c (hV i hi 3 f3 rfl)
      obtain ⟨a4, e4, h4⟩ := row_i64 k4 (hV i hi 4 f4 rfl)
      obtain ⟨A5, n5, c5, z5, e5, h5⟩ := row_rdI k5 k5b k5c (hV i hi 5 f5 rfl)
      refine ⟨(⟨a0, a1, a2, A3, n3, c3, a4, A5, n5, c5⟩, ⟨a0, a1, a2, z3, a4, z5⟩), fun _ => ⟨fun j hj => ?_, ⟨rfl, rfl, rfl, rfl, h3, h5⟩, ⟨h0, h1, h2, h4⟩⟩⟩
      match j, hj with
      | 0, _ => rw [e0]; rfl
      | 1, _ => rw [e1]; rfl
      | 2, _ => rw [e2]; rfl
      | 3, _ => rw [e3]; rfl
      | 4, _ => rw [e4]; rfl
      | 5, _ => rw [e5]; rfl
      | j + 6, h => omega
    · exact ⟨(⟨0, 0, 0, none, 0, 0, 0, none, 0, 0⟩, ⟨0, 0, 0, [], 0, []⟩), fun h => absurd h hi⟩
  obtain ⟨G, hG⟩ := Classical.axiomOfChoice each
  refine ⟨A, n, c, (List.range n).map (fun i => (G i).1), (List.range n).map (fun i => (G i).2), rfl, ⟨by simp, by simp, R.cap, R.max, fun hn => ?_, fun j hj hj' => ?_⟩, fun a ha => ?_⟩
  · obtain ⟨b, off, e, hlt, hc⟩ := R.at_ hn
    refine ⟨b, off, e, hlt, fun j hj i hi => ?_⟩
    have hin : j < n := by simpa using hj
    rw [hc j i hin hi, (hG j hin).1 i hi]
    simp
  · have hin : j < n := by simpa using hj
    simpa using (hG j hin).2.1
  · obtain ⟨i, hi, rfl⟩ := List.mem_map.1 ha
    exact (hG i (List.mem_range.1 hi)).2.2
end
end Go.Proofs.Ytodlgkpgpffpaaa
