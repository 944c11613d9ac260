/- Slices of answers; the streams that the law of streams makes, plain mathematics. -/
import Derived.Test.YtghhoofdbmgacaaDoorRpH
namespace Go.Proofs.YtghhoofdbmgacaaDoor
set_option linter.unusedSimpArgs false
set_option linter.unusedVariables false
open Go.ChangeShapes Go.WideShapes Go.ChangeAt Go.RowKit Go.Deep
/-- an answer's three numbers. -/
structure AV where
  v : Int
  r : Int
  t : Int
def AV.okA (a : AV) : Prop := i64P a.v ∧ i64P a.r ∧ i64P a.t
def AV.cells (a : AV) : List Value := [.int .i64 a.v, .int .i64 a.r, .int .i64 a.t]
structure AvAt (w : World) (A : Option Addr) (c : Nat) (ls : List AV) : Prop where
  cap : ls.length ≤ c
  max : c ≤ maxLen
  at_ : 0 < ls.length → ∃ g off, A = some ⟨g, off, none⟩ ∧ g < w.heap.size ∧ ∀ (j : Nat) (h : j < ls.length) (i : Nat), i < 3 → w.cell? ⟨g, off + j * 3 + i, none⟩ = (ls[j]).cells[i]?
theorem AvAt.below {w w' : World} {c : Nat} {A : Option Addr} {ls : List AV} (h : AvAt w A c ls) (hb : Below w.heap.size w w') : AvAt w' A c ls :=
  ⟨h.cap, h.max, fun h0 => by
    obtain ⟨g, off, e, hlt, hc⟩ := h.at_ h0
    exact ⟨g, off, e, Nat.lt_of_lt_of_le hlt hb.size, fun j hj i hi => (hb.cell (p := ⟨g, off + j * 3 + i, none⟩) hlt).trans (hc j hj i hi)⟩⟩
theorem AvAt.row {w : World} {A : Option Addr} {c : Nat} {ls : List AV} (h : AvAt w A c ls) {i : Nat} (hi : i < ls.length) : ∃ g off, A = some ⟨g, off, none⟩ ∧ g < w.heap.size ∧ w.cell? ⟨g, off + i * 3, none⟩ = some (.int .i64 (ls[i]).v) ∧ w.cell? ⟨g, off + i * 3 + 1, none⟩ = some (.int .i64 (ls[i]).r) ∧ w.cell? ⟨g, off + i * 3 + 2, none⟩ = some (.int .i64 (ls[i]).t) := by
  obtain ⟨g, off, e, hlt, hc⟩ := h.at_ (by omega)
  exact ⟨g, off, e, hlt, hc i hi 0 (by omega), hc i hi 1 (by omega), hc i hi 2 (by omega)⟩
section
variable {H : Type} {enc : TypeId × Value → H} {P : Program}
theorem open_rd3 {W : World} {base : Nat} {r : Reach} {b0 : Nat} {t e : TypeId} {f0 f1 f2 : Field} {v : Value} {d : DataW H} {p : List MemPlace} (ht : P.underlying t = some (.slice e)) (he : P.underlying e = some (.struct #[f0, f1, f2]))
    (hone : oneCellFields P #[f0, f1, f2] = true) (hC : P.cellsOf e = 3) (k0 : P.underlying f0.type = some (.int .i64)) (k1 : P.underlying f1.type = some (.int .i64)) (k2 : P.underlying f2.type = some (.int .i64))
    (hv : Value.okWide P W r b0 t v) (h : DataW.Trod enc P W base (fun _ => true) true t v d p) : ∃ A n c ls, v = .slice A n c ∧ ls.length = n ∧ AvAt W A c ls ∧ ∀ a ∈ ls, a.okA := by
  obtain ⟨A, n, c, V, rfl, R0, hV⟩ := open_rdF ht he hone hC (by simp) hv h
  have R : RdF W A n c 3 V := R0
  have e0 : ∀ i, ∃ a : Int, i < n → V i 0 = .int .i64 a ∧ (-9223372036854775808 ≤ a ∧ a ≤ 9223372036854775807) := by
    intro i
    by_cases hi : i < n
    · obtain ⟨a, h1, h2⟩ := row_i64 k0 (hV i hi 0 f0 rfl); exact ⟨a, fun _ => ⟨h1, h2⟩⟩
    · exact ⟨0, fun h => absurd h hi⟩
  have e1 : ∀ i, ∃ a : Int, i < n → V i 1 = .int .i64 a ∧ (-9223372036854775808 ≤ a ∧ a ≤ 9223372036854775807) := by
    intro i
    by_cases hi : i < n
    · obtain ⟨a, h1, h2⟩ := row_i64 k1 (hV i hi 1 f1 rfl); exact ⟨a, fun _ => ⟨h1, h2⟩⟩
    · exact ⟨0, fun h => absurd h hi⟩
  have e2 : ∀ i, ∃ a : Int, i < n → V i 2 = .int .i64 a ∧ (-9223372036854775808 ≤ a ∧ a ≤ 9223372036854775807) := by
    intro i
    by_cases hi : i < n
    · obtain ⟨a, h1, h2⟩ := row_i64 k2 (hV i hi 2 f2 rfl); exact ⟨a, fun _ => ⟨h1, h2⟩⟩
    · exact ⟨0, fun h => absurd h hi⟩
  obtain ⟨s, hs⟩ := Classical.axiomOfChoice e0
  obtain ⟨x, hx⟩ := Classical.axiomOfChoice e1
  obtain ⟨y, hy⟩ := Classical.axiomOfChoice e2
  have hlen : ((List.range n).map fun i => (⟨s i, x i, y i⟩ : AV)).length = n := by simp
  refine ⟨A, n, c, (List.range n).map fun i => ⟨s i, x i, y i⟩, rfl, hlen, ⟨by rw [hlen]; exact R.cap, R.max, fun hn => ?_⟩, fun a ha => ?_⟩
  · rw [hlen] at hn
    obtain ⟨b, off, rfl, hlt, hc⟩ := R.at_ hn
    refine ⟨b, off, rfl, hlt, fun j hj i hi => ?_⟩
    rw [hlen] at hj
    have := hc j i hj (by simpa using hi)
    simp only [List.getElem_map, List.getElem_range]
    rw [this]
    match i, hi with
    | 0, _ => rw [(hs j hj).1]; rfl
    | 1, _ => rw [(hx j hj).1]; rfl
    | 2, _ => rw [(hy j hj).1]; rfl
  · obtain ⟨i, hi, rfl⟩ := List.mem_map.1 ha
    have hi := List.mem_range.1 hi
    exact ⟨(hs i hi).2, (hx i hi).2, (hy i hi).2⟩
end
theorem i64_mask1 (n : Int) : bits .and .i64 n 1 = n % 2 := by
  have hm : (BitVec.ofInt 64 1).toNat = 2 ^ 1 - 1 := by decide
  have key : (BitVec.ofInt 64 n &&& BitVec.ofInt 64 1).toNat = (n % ((2 ^ 64 : Nat) : Int)).toNat % 2 ^ 1 := by
    rw [BitVec.toNat_and, BitVec.toNat_ofInt, hm, Nat.and_two_pow_sub_one_eq_mod]
  show IntKind.i64.wrap ((BitVec.ofInt 64 n &&& BitVec.ofInt 64 1).toNat : Nat) = n % 2
  rw [key, IntKind.wrap_i64]
  omega
def vd (V : Int) : Int := (V.tmod 3 + 3).tmod 3 + 1
theorem vd_mid (V : Int) : -2 ≤ V.tmod 3 ∧ V.tmod 3 ≤ 2 := by
  rcases Int.le_total 0 V with h | h
  · rw [Int.tmod_eq_emod_of_nonneg h]; omega
  · have e : V.tmod 3 = -((-V).tmod 3) := by rw [Int.neg_tmod, Int.neg_neg]
    rw [e, Int.tmod_eq_emod_of_nonneg (by omega)]; omega
theorem vd_bd (V : Int) : 1 ≤ vd V ∧ vd V ≤ 3 := by
  have h := vd_mid V
  unfold vd
  obtain ⟨x, hx⟩ : ∃ x, x = V.tmod 3 := ⟨_, rfl⟩
  rw [← hx] at h ⊢
  rw [Int.tmod_eq_emod_of_nonneg (by omega)]
  omega
/-- the answer that the law makes of the i-th. -/
def ansI (i : Nat) (a : AV) : List Int := ansZ ((i : Int) % 2 + 1) (vd a.v) a.r a.t
def linI (i : Nat) (a : AV) : List Int := lineZ (ansS ((i : Int) % 2 + 1) (vd a.v) a.r a.t)
def strB (ls : List AV) : Nat → List Int
  | 0 => []
  | i + 1 => strB ls i ++ frmZ (ansI i (ls.getD i ⟨0, 0, 0⟩))
def strL (ls : List AV) : Nat → List Int
  | 0 => []
  | i + 1 => strL ls i ++ (linI i (ls.getD i ⟨0, 0, 0⟩) ++ [10])
theorem opI (i : Nat) : (i : Int) % 2 + 1 = 1 ∨ (i : Int) % 2 + 1 = 2 := by omega
theorem frmI_length (i : Nat) (a : AV) : (frmZ (ansI i a)).length = 22 := by rw [frm_length]; unfold ansI; rw [ans_length]
theorem strB_length (ls : List AV) : ∀ i, (strB ls i).length = 22 * i
  | 0 => rfl
  | i + 1 => by rw [strB, List.length_append, strB_length ls i, frmI_length]; omega
theorem frm_byt {b : List Int} (hb : byt b) : byt (frmZ b) := by
  intro z hz
  unfold frmZ at hz
  simp only [List.mem_cons, List.mem_append] at hz
  rcases hz with rfl | rfl | hz | hz
  · omega
  · omega
  · exact be_byt _ _ z hz
  · exact hb z hz
theorem frmI_byt (i : Nat) (a : AV) : byt (frmZ (ansI i a)) := frm_byt (ans_byt (opI i) (vd_bd a.v))
theorem strB_byt (ls : List AV) : ∀ i, byt (strB ls i)
  | 0 => fun z hz => by cases hz
  | i + 1 => fun z hz => by
    rw [strB] at hz
    rcases List.mem_append.1 hz with h | h
    · exact strB_byt ls i z h
    · exact frmI_byt _ _ z h
theorem ok_getD {ls : List AV} (h : ∀ a ∈ ls, a.okA) (i : Nat) : (ls.getD i ⟨0, 0, 0⟩).okA := by
  by_cases hi : i < ls.length
  · rw [List.getD_eq_getElem?_getD, List.getElem?_eq_getElem hi]; exact h _ (List.getElem_mem hi)
  · rw [List.getD_eq_getElem?_getD, List.getElem?_eq_none (by omega)]
    show AV.okA ⟨0, 0, 0⟩
    unfold AV.okA i64P
    simp only
    omega
theorem readI (i : Nat) {a : AV} (h : a.okA) (y : List Int) : readZ (frmZ (ansI i a) ++ y) = some (ansS ((i : Int) % 2 + 1) (vd a.v) a.r a.t, 22) := by
  have h1 : saidZ (ansI i a) = some (ansS ((i : Int) % 2 + 1) (vd a.v) a.r a.t) := said_ans (opI i) (vd_bd a.v) h.2.1 h.2.2
  have h2 : (ansI i a).length = 18 := ans_length _ _ _ _
  have := read_frm h1 (by omega) y
  rw [h2] at this
  exact this
theorem strB_stp {ls : List AV} (h : ∀ a ∈ ls, a.okA) : ∀ (i : Nat) (y : List Int), stp (strB ls i ++ y) i = some (22 * i, strL ls i)
  | 0, y => rfl
  | i + 1, y => by
    have h1 := strB_stp h i (frmZ (ansI i (ls.getD i ⟨0, 0, 0⟩)) ++ y)
    rw [← List.append_assoc] at h1
    rw [strB, strL, show 22 * (i + 1) = 22 * i + 22 by omega]
    refine stp_step h1 ?_
    rw [List.append_assoc, List.drop_left' (strB_length ls i)]
    exact readI i (ok_getD h i) y
theorem cutI (i : Nat) (a : AV) : readZ ((frmZ (ansI i a)).take 21) = none := by
  have h2 : (ansI i a).length = 18 := ans_length _ _ _ _
  have hl : ((frmZ (ansI i a)).take 21).length = 21 := by rw [List.length_take, frmI_length]; rfl
  have e : frmZ (ansI i a) = 168 :: 1 :: 0 :: 18 :: ansI i a := by unfold frmZ; rw [h2, be_two]; rfl
  unfold readZ
  rw [hl, e]
  have e2 : (168 :: 1 :: 0 :: 18 :: ansI i a : List Int).take 21 = 168 :: 1 :: 0 :: 18 :: (ansI i a).take 17 := rfl
  rw [e2]
  rfl
theorem linI_len (i : Nat) {a : AV} (h : a.okA) : (linI i a).length ≤ 52000 := line_len (s := ansS _ _ _ _) (.inl ⟨opI i, vd_bd a.v, h.2.1, h.2.2, rfl⟩)
theorem strL_len {ls : List AV} (h : ∀ a ∈ ls, a.okA) : ∀ i, (strL ls i).length ≤ 52001 * i
  | 0 => Nat.zero_le _
  | i + 1 => by
    have h1 := strL_len h i
    have h2 := linI_len i (ok_getD h i)
    rw [strL, List.length_append, List.length_append, List.length_singleton]
    omega
theorem head_none {y : List Int} (h : y.length = 0 ∨ y.getD 0 0 ≠ 168) : readZ y = none := by
  unfold readZ
  rw [if_pos (by omega)]
end Go.Proofs.YtghhoofdbmgacaaDoor
