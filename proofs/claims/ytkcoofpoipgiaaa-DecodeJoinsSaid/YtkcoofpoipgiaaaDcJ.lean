/- Requests joined: plain mathematics; arguments that are slices of requests, opened. -/
import Derived.Test.YtkcoofpoipgiaaaDcG
import Derived.Test.YtkcoofpoipgiaaaDcD
import Derived.Test.YtkcoofpoipgiaaaRowF
namespace Go.Proofs.Ytkcoofpoipgiaaa
set_option linter.unusedSimpArgs false
set_option linter.unusedVariables false
open Go.ChangeShapes Go.WideShapes Go.ChangeAt Go.RowKit Go.Deep
def joinE : List Req → List Int
  | [] => []
  | q :: r => encZ q ++ joinE r
theorem joinE_app : ∀ l q, joinE (l ++ [q]) = joinE l ++ encZ q
  | [], q => by simp [joinE]
  | p :: r, q => by rw [List.cons_append, joinE, joinE, joinE_app r q, List.append_assoc]
def okQ (q : Req) : Prop := (0 ≤ q.cost ∧ q.cost < 4294967296) ∧ (strOfNums q.key).size ≤ maxLen ∧ nums (strOfNums q.key) = q.key
theorem okQ.mk {q : Req} (h : okQ q) : mkR q.op q.rule q.cost (strOfNums q.key) q.k = q := by
  obtain ⟨o, r, c, key, k⟩ := q
  show (⟨o, r, c, nums (strOfNums key), k⟩ : Req) = _
  rw [h.2.2]
theorem okQ.byt {q : Req} (h : okQ q) : Go.Proofs.Ytkcoofpoipgiaaa.byt q.key := by
  rw [← h.2.2]
  exact fun z hz => nums_bd _ z hz
theorem enc_75 {q : Req} (h : rightP q 9) : (encZ q).length ≤ 75 := by
  rw [enc_length h]
  rcases h.2 with ⟨_, h2, _⟩ | ⟨h1, _, h2, _⟩ | ⟨h1, _, h2, _⟩
  · split
    · omega
    · split <;> omega
  · rw [h2]; simp only [List.length_nil]; repeat' split
    all_goals omega
  · rw [h2]; simp only [List.length_nil]; repeat' split
    all_goals omega
theorem all_enc {q : Req} (h : rightP q 9) (hc : 0 ≤ q.cost ∧ q.cost < 4294967296) (r : List Int) : allZ 9 [] (encZ q ++ r) = (q :: (allZ 9 [] r).1, (allZ 9 [] r).2.1 + (encZ q).length, (allZ 9 [] r).2.2) := by
  have hp := parse_enc (rules := 9) (by omega) h hc r
  have h6 := enc_six h
  rcases all_ways (rules := 9) (b := encZ q ++ r) with ⟨_, h1, _⟩ | ⟨i, _, _, hf, h1, _⟩ | ⟨i, hi, _, _, _, h1, h2⟩
  · rw [hp] at h1; injection h1 with _ h1; injection h1 with h1; omega
  · rw [hp] at h1; injection h1 with _ h1; injection h1 with h1; omega
  · rw [hp] at h1
    injection h1 with e1 h1
    injection h1 with e2 _
    have e3 : i + 1 = (encZ q).length := by omega
    rw [h2, ← e1, e3, List.drop_left]
theorem all_join : ∀ l : List Req, (∀ q ∈ l, rightP q 9 ∧ okQ q) → allZ 9 [] (joinE l) = (l, (joinE l).length, 0)
  | [], _ => rfl
  | q :: r, h => by
    obtain ⟨h1, h2⟩ := h q (by simp)
    rw [joinE, all_enc h1 h2.1, all_join r (fun p hp => h p (by simp [hp])), List.length_append]
    simp only []
    rw [Nat.add_comm]
theorem join_len : ∀ l : List Req, (∀ q ∈ l, rightP q 9) → (joinE l).length ≤ 75 * l.length
  | [], _ => by simp [joinE]
  | q :: r, h => by
    have := enc_75 (h q (by simp))
    have := join_len r (fun p hp => h p (by simp [hp]))
    rw [joinE, List.length_append, List.length_cons]
    omega
theorem join_byt : ∀ l : List Req, (∀ q ∈ l, rightP q 9 ∧ okQ q) → byt (joinE l)
  | [], _ => fun z hz => by simp [joinE] at hz
  | q :: r, h => fun z hz => by
    rw [joinE, List.mem_append] at hz
    obtain ⟨h1, h2⟩ := h q (by simp)
    rcases hz with hz | hz
    · exact enc_byt (right_less h1 (by omega)) h2.byt z hz
    · exact join_byt r (fun p hp => h p (by simp [hp])) z hz
section
variable {H : Type} {enc : TypeId × Value → H} {P : Program}
theorem row_str {W : World} {base : Nat} {t : TypeId} {v : Value} (ht : P.underlying t = some .string) (h : ∃ N y, DataW.trod enc P W base (fun _ => true) true N t [v] = some y) : ∃ s : ByteArray, v = .string s ∧ s.size ≤ maxLen := by
  obtain ⟨N, y, h⟩ := h
  obtain ⟨s, h1, _, h3⟩ := DataW.trod_string ht h
  simp only [List.cons.injEq, and_true] at h1
  exact ⟨s, h1, h3⟩
theorem row_u32 {W : World} {base : Nat} {t : TypeId} {v : Value} (ht : P.underlying t = some (.int .u32)) (h : ∃ N y, DataW.trod enc P W base (fun _ => true) true N t [v] = some y) :
    ∃ a : Int, v = .int .u32 a ∧ (0 ≤ a ∧ a < 4294967296) := by
  obtain ⟨N, y, h⟩ := h
  obtain ⟨a, h1, _, h3⟩ := DataW.trod_int ht h
  simp only [List.cons.injEq, and_true] at h1
  have := bounds_u32 h3
  exact ⟨a, h1, by omega⟩
theorem open_rdQ {W : World} {base : Nat} {r : Reach} {b0 : Nat} {t e : TypeId} {f0 f1 f2 f3 f4 : Field} {v : Value} {d : DataW H} {p : List MemPlace} (ht : P.underlying t = some (.slice e)) (he : P.underlying e = some (.struct #[f0, f1, f2, f3, f4]))
    (hone : oneCellFields P #[f0, f1, f2, f3, f4] = true) (hC : P.cellsOf e = 5) (k0 : P.underlying f0.type = some (.int .i64)) (k1 : P.underlying f1.type = some (.int .i64)) (k2 : P.underlying f2.type = some (.int .u32)) (k3 : P.underlying f3.type = some .string) (k4 : P.underlying f4.type = some (.int .i64))
    (hv : Value.okWide P W r b0 t v) (h : DataW.Trod enc P W base (fun _ => true) true t v d p) : ∃ A n c l, v = .slice A n c ∧ RdQ W A n c l ∧ ∀ q ∈ l, okQ q := by
  obtain ⟨A, n, c, V, rfl, R0, hV⟩ := open_rdF ht he hone hC (by simp) hv h
  have R : RdF W A n c 5 V := R0
  have each : ∀ i, ∃ q : Req, i < n → (V i 0 = .int .i64 q.op ∧ V i 1 = .int .i64 q.rule ∧ V i 2 = .int .u32 q.cost ∧ V i 3 = .string (strOfNums q.key) ∧ V i 4 = .int .i64 q.k) ∧ okQ q := by
    intro i
    by_cases hi : i < n
    · obtain ⟨a0, e0, _⟩ := row_i64 k0 (hV i hi 0 f0 rfl)
      obtain ⟨a1, e1, _⟩ := row_i64 k1 (hV i hi 1 f1 rfl)
      obtain ⟨a2, e2, g2⟩ := row_u32 k2 (hV i hi 2 f2 rfl)
      obtain ⟨s, e3, g3⟩ := row_str k3 (hV i hi 3 f3 rfl)
      obtain ⟨a4, e4, _⟩ := row_i64 k4 (hV i hi 4 f4 rfl)
      refine ⟨⟨a0, a1, a2, nums s, a4⟩, fun _ => ⟨⟨e0, e1, e2, ?_, e4⟩, g2, ?_, ?_⟩⟩
      · show V i 3 = .string (strOfNums (nums s))
        rw [str_nums]; exact e3
      · show (strOfNums (nums s)).size ≤ maxLen
        rw [str_nums]; exact g3
      · show nums (strOfNums (nums s)) = nums s
        rw [str_nums]
    · exact ⟨req0, fun h => absurd h hi⟩
  obtain ⟨Q, hQ⟩ := Classical.axiomOfChoice each
  refine ⟨A, n, c, (List.range n).map Q, rfl, ⟨by simp, R.cap, R.max, fun hn => ?_⟩, fun q hq => ?_⟩
  · obtain ⟨b, off, rfl, hlt, hc⟩ := R.at_ hn
    refine ⟨b, off, rfl, hlt, fun i hi => ?_⟩
    have hin : i < n := by simpa using hi
    obtain ⟨⟨h0, h1, h2, h3, h4⟩, _⟩ := hQ i hin
    have e : ((List.range n).map Q)[i] = Q i := by simp
    rw [e, ← h0, ← h1, ← h2, ← h3, ← h4]
    exact ⟨hc i 0 hin (by omega), hc i 1 hin (by omega), hc i 2 hin (by omega), hc i 3 hin (by omega), hc i 4 hin (by omega)⟩
  · obtain ⟨i, hi, rfl⟩ := List.mem_map.1 hq
    exact (hQ i (List.mem_range.1 hi)).2
end
end Go.Proofs.Ytkcoofpoipgiaaa
