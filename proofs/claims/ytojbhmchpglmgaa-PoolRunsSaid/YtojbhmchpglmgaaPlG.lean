/- The law PoolRuns of layer 10 (pool), walked. -/
import Derived.Test.YtojbhmchpglmgaaPlK
import Derived.BigRegion
namespace Go.Proofs.Ytojbhmchpglmgaa
set_option linter.unusedSimpArgs false
set_option linter.unusedVariables false
open Go.ChangeShapes Go.WideShapes Go.ChangeAt Go.RowKit Go.Shelf
open Ar (inR)
attribute [local go_sem] Oper.semAt_some
/-- a place of the law's own table. -/
abbrev Plc := ByteArray × Cel × Bool
def encP (a : Plc) : List Value := [.string a.1, .int .i64 a.2.1.1, .int .i64 a.2.1.2.1, .int .i64 a.2.1.2.2.1, .int .i64 a.2.1.2.2.2, .bool a.2.2]
theorem encP_len (a : Plc) : (encP a).length = 6 := rfl
def itC (l : List Nat) : List Value := l.map fun j : Nat => Value.int .i64 (j : Int)
theorem info_plc : (Try.prog.info? 40).map (fun i => (i.zero, i.size, i.bytes)) = some (some (.agg #[.string ⟨#[]⟩, .int .i64 0, .int .i64 0, .int .i64 0, .int .i64 0, .bool false]), 6, 56) := by kernel_rfl
theorem info_int : (Try.prog.info? 3).map (fun i => (i.zero, i.size, i.bytes)) = some (some (.int .i64 0), 1, 8) := by kernel_rfl
/-- what the table says of the pool. -/
structure TabR (n : Nat) (σ : KSt) (C : List Cel) (M : List Plc) : Prop where
  len : M.length = n
  yes : ∀ j key c, M[j]? = some (key, c, true) → σ.K j = some key ∧ C[j]? = some c
  no : ∀ j key c, M[j]? = some (key, c, false) → σ.K j = none
theorem rev_take {N i : Nat} (h : i < N) : (List.range N).reverse.take (i + 1) = (List.range N).reverse.take i ++ [N - 1 - i] := by
  have hl : i < (List.range N).reverse.length := by simpa using h
  rw [List.take_succ_eq_append_getElem hl]
  congr 2
  rw [List.getElem_reverse]
  simp
/-- what the law has, but the list of what is free. -/
structure RS (w wr : World) (Q : PlN) (nb rb pb mb N : Nat) (σ : KSt) (C : List Cel) (M : List Plc) : Prop where
  at_ : PlAt wr Q σ C
  kn : Blk wr nb 3 #[.int .i64 (N : Int)]
  kr : Blk wr rb 4 #[.bool false]
  km : Blk wr mb 33 #[.slice (some ⟨pb, 0, none⟩) N N]
  kp : Blk wr pb 40 (rws encP M).toArray
  tab : TabR N σ C M
  bl : Below w.heap.size w wr
structure RQ (w : World) (Q : PlN) (nb rb pb mb N : Nat) : Prop where
  q : ∀ k, Q.all k → rb < k ∧ k < pb
  n : w.heap.size ≤ nb
  nr : nb < rb
  rp : rb < pb
  pm : pb < mb
  qn : Q.N.n = N
/-- its own blocks. -/
structure RP (w wr : World) (nb rb pb mb N : Nat) (M : List Plc) : Prop where
  kn : Blk wr nb 3 #[.int .i64 (N : Int)]
  kr : Blk wr rb 4 #[.bool false]
  km : Blk wr mb 33 #[.slice (some ⟨pb, 0, none⟩) N N]
  kp : Blk wr pb 40 (rws encP M).toArray
  bl : Below w.heap.size w wr
theorem RS.parts {w wr : World} {Q : PlN} {nb rb pb mb N : Nat} {σ : KSt} {C : List Cel} {M : List Plc} (h : RS w wr Q nb rb pb mb N σ C M) : RP w wr nb rb pb mb N M := ⟨h.kn, h.kr, h.km, h.kp, h.bl⟩
theorem RP.with_ {w wr : World} {Q : PlN} {nb rb pb mb N : Nat} {σ : KSt} {C : List Cel} {M : List Plc} (h : RP w wr nb rb pb mb N M) (h1 : PlAt wr Q σ C) (h2 : TabR N σ C M) : RS w wr Q nb rb pb mb N σ C M := ⟨h1, h.kn, h.kr, h.km, h.kp, h2, h.bl⟩
theorem RP.keep {w wr wz : World} {nb rb pb mb N : Nat} {M : List Plc} (h : RP w wr nb rb pb mb N M) (hb : Below wr.heap.size wr wz) : RP w wz nb rb pb mb N M := ⟨h.kn.keep hb, h.kr.keep hb, h.km.keep hb, h.kp.keep hb, below_in h.bl hb⟩
theorem RP.fr {w wr wz : World} {Q : PlN} {nb rb pb mb N : Nat} {M : List Plc} (h : RP w wr nb rb pb mb N M) (q : RQ w Q nb rb pb mb N) {F : Nat → Prop} (hf : Fr F wr wz) (hF : ∀ k, F k → mb < k ∨ Q.all k) : RP w wz nb rb pb mb N M := by
  have q1 := q.nr
  have q2 := q.rp
  have q3 := q.pm
  have q4 := q.n
  have key : ∀ k, F k → (mb < k ∨ (rb < k ∧ k < pb)) := fun k hk => by
    rcases hF k hk with h | h
    · exact .inl h
    · exact .inr (q.q k h)
  exact ⟨h.kn.fr hf (fun e => by have := key _ e; omega), h.kr.fr hf (fun e => by have := key _ e; omega), h.km.fr hf (fun e => by have := key _ e; omega), h.kp.fr hf (fun e => by have := key _ e; omega), h.bl.trans (hf.below h.bl.size (fun k hk => by have := key k hk; omega))⟩
theorem RS.keep {w wr wz : World} {Q : PlN} {nb rb pb mb N : Nat} {σ : KSt} {C : List Cel} {M : List Plc} (h : RS w wr Q nb rb pb mb N σ C M) (hb : Below wr.heap.size wr wz) : RS w wz Q nb rb pb mb N σ C M := (h.parts.keep hb).with_ (h.at_.keep hb) h.tab
theorem RS.fr {w wr wz : World} {Q : PlN} {nb rb pb mb N : Nat} {σ : KSt} {C : List Cel} {M : List Plc} (h : RS w wr Q nb rb pb mb N σ C M) (q : RQ w Q nb rb pb mb N) {F : Nat → Prop} (hf : Fr F wr wz) (hF : ∀ k, F k → mb < k) : RS w wz Q nb rb pb mb N σ C M :=
  (h.parts.fr q hf (fun k hk => .inl (hF k hk))).with_ (h.at_.fr hf (fun k hk hk' => by have := (q.q k hk).2; have := hF k hk'; have := q.pm; omega)) h.tab
theorem RS.turn {w wr wz : World} {Q : PlN} {nb rb pb mb N B : Nat} {σ : KSt} {C : List Cel} {M : List Plc} (h : RS w wr Q nb rb pb mb N σ C M) (ht : Turn B wr wz) (hB : w.heap.size ≤ B) : RS w wz Q nb rb pb mb N σ C M :=
  ⟨KeepB.pl (KeepB.turn ht) h.at_, h.kn.turn ht, h.kr.turn ht, h.km.turn ht, h.kp.turn ht, h.tab, ht.below h.bl hB⟩
/-- what a box of a number holds. -/
def boxN (w : World) (b : Nat) : Nat := match w.cell? ⟨b, 0, none⟩ with | some v => (intOf v).toNat | none => 0
theorem boxN_of {w : World} {b x : Nat} (h : Blk w b 3 #[.int .i64 (x : Int)]) : boxN w b = x := by
  unfold boxN
  rw [h.rd 0]
  simp [intOf]
/-- a call of the pool. -/
theorem RP.op {w wr wz : World} {Q : PlN} {nb rb pb mb N : Nat} {M : List Plc} (h : RP w wr nb rb pb mb N M) (q : RQ w Q nb rb pb mb N) (hf : Fr Q.F wr wz) : RP w wz nb rb pb mb N M := h.fr q hf (fun k hk => .inr (Or.inl hk))
/-- a change of the law's own table. -/
theorem RS.poke {w wr : World} {Q : PlN} {nb rb pb mb N : Nat} {σ : KSt} {C : List Cel} {M M' : List Plc} (h : RP w wr nb rb pb mb N M) (h1 : PlAt wr Q σ C) (q : RQ w Q nb rb pb mb N) (ht : TabR N σ C M') :
    RS w (setObj wr pb (.cells (rws encP M').toArray 40 (0, 0))) Q nb rb pb mb N σ C M' := by
  have f := fr_one wr pb (.cells (rws encP M').toArray 40 (0, 0))
  have q1 := q.nr
  have q2 := q.rp
  have q3 := q.pm
  have q4 := q.n
  exact ⟨h1.fr f (fun k hk e => by have := (q.q k hk).2; omega), h.kn.fr f (by omega), h.kr.fr f (by omega), h.km.fr f (by omega), setObj_at (lt_of_block h.kp) _, ht, h.bl.trans (f.below h.bl.size (fun k hk => by omega))⟩
theorem own_op {w wr wz : World} {Q : PlN} {nb rb pb mb N n : Nat} {v : Value} {xs : List Value} {e : TypeId} (h : wr.ownsRow (mb + 1) e 1 v n xs) (q : RQ w Q nb rb pb mb N) (hf : Fr Q.F wr wz) : wz.ownsRow (mb + 1) e 1 v n xs :=
  G.own_fr h hf (fun g hg hF => by have := G.own_base h g hg; have := (q.q g (Or.inl hF)).2; have := q.pm; omega)
theorem put_has {n : Nat} {σ : KSt} {s : ByteArray} {i : Nat} (h : posN n σ.K s = some i) : σ.put n s = (σ, none) := by unfold KSt.put; rw [h]
theorem put_long {n : Nat} {σ : KSt} {s : ByteArray} (h : posN n σ.K s = none) (h' : 64 < s.size) : σ.put n s = (σ, none) := by unfold KSt.put; rw [h]; simp only; rw [if_pos h']
theorem put_full {n : Nat} {σ : KSt} {s : ByteArray} (h : posN n σ.K s = none) (h' : ¬ 64 < s.size) (hf : σ.fl = []) : σ.put n s = (σ, none) := by unfold KSt.put; rw [h]; simp only; rw [if_neg h', hf]; rfl
theorem put_new {n : Nat} {σ : KSt} {s : ByteArray} {l : List Nat} {i : Nat} (h : posN n σ.K s = none) (h' : ¬ 64 < s.size) (hf : σ.fl = l ++ [i]) : σ.put n s = (⟨l, fun j => if j = i then some s else σ.K j⟩, some i) := by
  unfold KSt.put; rw [h]; simp only; rw [if_neg h', hf]
  simp
theorem del_yes {n : Nat} {σ : KSt} {s : ByteArray} {i : Nat} (h : posN n σ.K s = some i) : σ.del n s = (⟨σ.fl ++ [i], fun j => if j = i then none else σ.K j⟩, some i) := by unfold KSt.del; rw [h]
theorem del_no {n : Nat} {σ : KSt} {s : ByteArray} (h : posN n σ.K s = none) : σ.del n s = (σ, none) := by unfold KSt.del; rw [h]
theorem rws_store6 {α : Type} {enc : α → List Value} (h : ∀ a, (enc a).length = 6) {w : World} {b : Nat} {t : TypeId} {L : List α} (hb : Blk w b t (rws enc L).toArray) {i : Nat} (hi : i < L.length) (a : α) {v0 v1 v2 v3 v4 v5 : Value} (he : enc a = [v0, v1, v2, v3, v4, v5]) :
    (((((w.setCell ⟨b, i * 6, none⟩ v0).setCell ⟨b, i * 6 + 1, none⟩ v1).setCell ⟨b, i * 6 + 2, none⟩ v2).setCell ⟨b, i * 6 + 3, none⟩ v3).setCell ⟨b, i * 6 + 4, none⟩ v4).setCell ⟨b, i * 6 + 5, none⟩ v5 = setObj w b (.cells (rws enc (L.set i a)).toArray t (0, 0)) := by
  have hl := lt_of_block hb
  rw [setCell_obj hb, setCell_in hl, setCell_in hl, setCell_in hl, setCell_in hl, setCell_in hl, ← rws_set h L i a hi, he]
  simp only [List.setIfInBounds_toArray, lay]
theorem TabR.put {n : Nat} {σ : KSt} {C : List Cel} {M : List Plc} {i : Nat} {s : ByteArray} {c : Cel} {l : List Nat} (h : TabR n σ C M) (hi : i < n) (hC : C.length = n) : TabR n ⟨l, fun j => if j = i then some s else σ.K j⟩ (C.set i c) (M.set i (s, c, true)) := by
  refine ⟨by rw [List.length_set]; exact h.len, fun j key c' hj => ?_, fun j key c' hj => ?_⟩
  · by_cases e : i = j
    · subst e
      rw [List.getElem?_set_self (by rw [h.len]; exact hi)] at hj
      cases hj
      exact ⟨if_pos rfl, List.getElem?_set_self (by omega)⟩
    · rw [List.getElem?_set_ne e] at hj
      have := h.yes j key c' hj
      exact ⟨by show (if j = i then some s else σ.K j) = _; rw [if_neg (Ne.symm e)]; exact this.1, by rw [List.getElem?_set_ne e]; exact this.2⟩
  · by_cases e : i = j
    · subst e
      rw [List.getElem?_set_self (by rw [h.len]; exact hi)] at hj
      cases hj
    · rw [List.getElem?_set_ne e] at hj
      show (if j = i then some s else σ.K j) = none
      rw [if_neg (Ne.symm e)]
      exact h.no j key c' hj
theorem TabR.del {n : Nat} {σ : KSt} {C : List Cel} {M : List Plc} {i : Nat} {key0 : ByteArray} {c0 : Cel} {l : List Nat} (h : TabR n σ C M) (hi : M[i]? = some (key0, c0, true)) : TabR n ⟨l, fun j => if j = i then none else σ.K j⟩ C (M.set i (key0, c0, false)) := by
  have hil := (List.getElem?_eq_some_iff.1 hi).1
  refine ⟨by rw [List.length_set]; exact h.len, fun j key c' hj => ?_, fun j key c' hj => ?_⟩
  · by_cases e : i = j
    · subst e
      rw [List.getElem?_set_self hil] at hj
      cases hj
    · rw [List.getElem?_set_ne e] at hj
      have := h.yes j key c' hj
      exact ⟨by show (if j = i then none else σ.K j) = _; rw [if_neg (Ne.symm e)]; exact this.1, this.2⟩
  · by_cases e : i = j
    · subst e
      exact if_pos rfl
    · rw [List.getElem?_set_ne e] at hj
      show (if j = i then none else σ.K j) = none
      rw [if_neg (Ne.symm e)]
      exact h.no j key c' hj
theorem PlAt.set {w : World} {Q : PlN} {σ : KSt} {C : List Cel} {i : Nat} {c : Cel} (h : PlAt w Q σ C) : PlAt (setObj w Q.cb (.cells (rws encC (C.set i c)).toArray 38 (0, 0))) Q σ (C.set i c) := by
  have hf := fr_one w Q.cb (.cells (rws encC (C.set i c)).toArray 38 (0, 0))
  exact ⟨h.hp.fr hf h.ne.1, setObj_at (lt_of_block h.hc) _, by rw [List.length_set]; exact h.len, h.ix.fr hf (fun k hk e => (h.ne.2 k hk).1 e), h.n1, h.ne⟩
theorem TabR.at_ {n : Nat} {σ : KSt} {C : List Cel} {M : List Plc} {i : Nat} {s : ByteArray} (h : TabR n σ C M) (hi : i < n) (hk : σ.K i = some s) : ∃ c, M[i]? = some (s, c, true) ∧ C[i]? = some c := by
  have hil : i < M.length := by rw [h.len]; exact hi
  obtain ⟨⟨k, c, b⟩, hm⟩ : ∃ a, M[i]? = some a := ⟨_, List.getElem?_eq_getElem hil⟩
  cases b with
  | false => have := h.no i k c hm; rw [hk] at this; cases this
  | true =>
    have := h.yes i k c hm
    rw [hk] at this
    have e : s = k := Option.some.inj this.1
    subst e
    exact ⟨c, hm, this.2⟩
theorem TabR.use {n : Nat} {σ : KSt} {C : List Cel} {M : List Plc} {i : Nat} {s : ByteArray} {c c0 : Cel} (h : TabR n σ C M) (hi : M[i]? = some (s, c0, true)) : TabR n σ (C.set i c) (M.set i (s, c, true)) := by
  have hil := (List.getElem?_eq_some_iff.1 hi).1
  have hy := h.yes i s c0 hi
  have hcl := (List.getElem?_eq_some_iff.1 hy.2).1
  refine ⟨by rw [List.length_set]; exact h.len, fun j key c' hj => ?_, fun j key c' hj => ?_⟩
  · by_cases e : i = j
    · subst e
      rw [List.getElem?_set_self hil] at hj
      cases hj
      exact ⟨hy.1, List.getElem?_set_self hcl⟩
    · rw [List.getElem?_set_ne e] at hj
      have := h.yes j key c' hj
      exact ⟨this.1, by rw [List.getElem?_set_ne e]; exact this.2⟩
  · by_cases e : i = j
    · subst e
      rw [List.getElem?_set_self hil] at hj
      cases hj
    · rw [List.getElem?_set_ne e] at hj
      exact h.no j key c' hj
theorem modP3 (x : Int) : ∃ r : Int, x.tmod 3 = r ∧ (-2 ≤ r ∧ r ≤ 2) := by
  refine ⟨_, rfl, ?_⟩
  rcases Int.le_total 0 x with h | h
  · rw [Int.tmod_eq_emod_of_nonneg h]; omega
  · have : x = -(-x) := by omega
    rw [this, Int.neg_tmod, Int.tmod_eq_emod_of_nonneg (by omega)]; omega
/-- a loop's own place, in a box of its own. -/
theorem box6 (X : World) (t : TypeId) (z0 z1 z2 z3 z4 z5 a b c d e f : Value) : ∃ w1 w2, X.alloc (.cells #[z0, z1, z2, z3, z4, z5] t) = w1 ∧
    (∀ j, w1.cell? ⟨X.heap.size, j, none⟩ = (#[z0, z1, z2, z3, z4, z5] : Array Value)[j]?) ∧ (∀ j, w1.frozen? ⟨X.heap.size, j, none⟩ = false) ∧
    (((((w1.setCell ⟨X.heap.size, 0, none⟩ a).setCell ⟨X.heap.size, 1, none⟩ b).setCell ⟨X.heap.size, 2, none⟩ c).setCell ⟨X.heap.size, 3, none⟩ d).setCell ⟨X.heap.size, 4, none⟩ e).setCell ⟨X.heap.size, 5, none⟩ f = w2 ∧
    Below X.heap.size X w2 ∧ Blk w2 X.heap.size t #[a, b, c, d, e, f] := by
  obtain ⟨w1, hw1, kc1, l1, s1⟩ := box_new X #[z0, z1, z2, z3, z4, z5] t
  have hl := lt_of_block kc1
  have hset : (((((w1.setCell ⟨X.heap.size, 0, none⟩ a).setCell ⟨X.heap.size, 1, none⟩ b).setCell ⟨X.heap.size, 2, none⟩ c).setCell ⟨X.heap.size, 3, none⟩ d).setCell ⟨X.heap.size, 4, none⟩ e).setCell ⟨X.heap.size, 5, none⟩ f = setObj w1 X.heap.size (.cells #[a, b, c, d, e, f] t (0, 0)) := by
    rw [setCell_obj kc1]
    simp only [setCell_in hl, List.setIfInBounds_toArray, List.set_cons_zero, List.set_cons_succ]
  exact ⟨w1, _, hw1, kc1.rd, kc1.wr, hset, l1.trans ((fr_one _ _ _).below l1.size (fun k hk => by omega)), setObj_at hl _⟩
theorem posN_up {K : Nat → Option ByteArray} {s : ByteArray} {t : Nat} (h : K t = some s) (hu : ∀ i j s, K i = some s → K j = some s → i = j) : posN (t + 1) K s = some t := posN_at (by omega) h hu
theorem posN_same {K : Nat → Option ByteArray} {s : ByteArray} {t : Nat} (h : K t ≠ some s) : posN (t + 1) K s = posN t K s := by
  unfold posN
  rw [List.range_succ, List.find?_append]
  simp [List.find?_cons, h]
set_option maxRecDepth 100000 in
set_option maxHeartbeats 16000000 in
theorem plruns_law (w : World) (n0 : Int) (a1 b1 c1 : Nat) (A : Option Addr) (n c : Nat) (L : List (Int × ByteArray × Int)) (hn0 : inR n0) (h1 : a1 < 18446744073709551616 ∧ b1 < 18446744073709551616 ∧ c1 < 18446744073709551616) (hr : RdL w A n c 3 encISI L) (hok : ∀ a ∈ L, okISI a) :
    Calls Try.prog 3 #[.int .i64 n0, .agg #[.int .u64 a1, .int .u64 b1, .int .u64 c1], .slice A n c] w fun e w' => e = .returned (.bool true) ∧ Below w.heap.size w w' := by
  have hmx := hr.max
  unfold maxLen at hmx
  have hcp := hr.cap
  obtain ⟨m0, hm0⟩ : ∃ k : Nat, n0 % 8 = (k : Int) := ⟨(n0 % 8).toNat, by omega⟩
  have eb0 : bits BinOp.and IntKind.i64 n0 7 = (m0 : Int) := by rw [i64_mask3, hm0]
  obtain ⟨N, hN⟩ : ∃ N, N = m0 + 1 := ⟨_, rfl⟩
  have en : IntKind.i64.wrap ((m0 : Int) + 1) = (N : Int) := by rw [IntKind.wrap_i64]; omega
  have hNb : 1 ≤ N ∧ N ≤ 8 := by omega
  refine callsM Try.func3 rfl ?_
  simp only [Try.ntmps3, List.size_toArray, List.length_cons, List.length_nil, Nat.reduceAdd, Nat.reduceSub, Array.replicate_succ, Array.replicate_zero, List.push_toArray, List.append_toArray, List.nil_append, List.cons_append]
  go_wp2_with (fail)
  obtain ⟨w1, hw1, k0, l1, s1⟩ := box_new w #[.int .i64 n0] 3
  obtain ⟨w2, hw2, k1, l2, s2⟩ := box_new w1 #[.int .u64 (a1 : Int), .int .u64 (b1 : Int), .int .u64 (c1 : Int)] 23
  obtain ⟨w3, hw3, k2, l3, s3⟩ := box_new w2 #[.bool false] 4
  rw [hw1, hw2, hw3]
  obtain ⟨rb, hrb⟩ : ∃ x, x = w.heap.size + 1 + 1 := ⟨_, rfl⟩
  obtain ⟨db, hdb⟩ : ∃ x, x = w.heap.size + 1 := ⟨_, rfl⟩
  obtain ⟨nb, hnb⟩ : ∃ x, x = w.heap.size := ⟨_, rfl⟩
  rw [s2, s1, ← hrb] at k2
  rw [s1, ← hdb] at k1
  rw [← hnb] at k0
  rw [← hrb, ← hdb, ← hnb]
  have HB := Lib.hid (And.intro hnb (And.intro hdb hrb))
  have b3 := below_in (below_in l1 l2) l3
  have kk0 := (k0.keep l2).keep l3
  have kk1 := k1.keep l3
  refine (plfit_any w3).mono ?_
  rintro e w4 ⟨rfl, b4⟩
  have KK := Lib.hid (And.intro (kk0.keep b4) (And.intro (kk1.keep b4) (And.intro (k2.keep b4) (And.intro (below_in b3 b4) (show rb < w4.heap.size by have := b4.size; omega)))))
  have r0 := KK.out.1.rd
  have r0w := KK.out.1.wr
  have r2 := KK.out.2.2.1.rd
  have r2w := KK.out.2.2.1.wr
  have HNN := Lib.hid (And.intro hN hNb)
  have n02 : nb ≠ rb := by omega
  have n20 : rb ≠ nb := by omega
  clear hw1 hw2 hw3 k0 k1 k2 l1 l2 l3 s1 s2 s3 hrb hdb hnb b3 kk0 kk1 b4 hm0 hN hNb
  go_upto_region 4 with (fail)
  have e5 : (#[Value.int .i64 n0] : Array Value).setIfInBounds 0 (.int .i64 (N : Int)) = #[.int .i64 (N : Int)] := rfl
  rw [setCell_obj KK.out.1, e5]
  have k5 : Blk (setObj w4 nb (.cells #[.int .i64 (N : Int)] 3 (0, 0))) nb 3 #[.int .i64 (N : Int)] := setObj_at (lt_of_block KK.out.1) _
  have f5 := fr_one w4 nb (.cells #[.int .i64 (N : Int)] 3 (0, 0))
  generalize (setObj w4 nb (.cells #[.int .i64 (N : Int)] 3 (0, 0))) = w5 at k5 f5 ⊢
  have K5 := Lib.hid (And.intro k5 (And.intro (KK.out.2.1.fr f5 (by have := HB.out; omega)) (And.intro (KK.out.2.2.1.fr f5 (by omega)) (And.intro (KK.out.2.2.2.1.trans (f5.below KK.out.2.2.2.1.size (fun k hk => by have := HB.out; omega))) (show rb < w5.heap.size by have := KK.out.2.2.2.2; have := f5.size; omega)))))
  clear k5 f5 e5 KK r0 r0w r2 r2w
  have r2 := K5.out.2.2.1.rd
  have r2w := K5.out.2.2.1.wr
  by_cases hn : (150 : Int) < (n : Int)
  · clear hr hok h1
    go_wp2
    exact bodyM_early rfl Try.underlying4 rfl rfl rfl K5.out.2.2.1 K5.out.2.2.2.1 (by have := HB.out; omega)
  have hn2 : (n : Int) ≤ 150 := by omega
  have HR := Lib.hid hr
  have HO := Lib.hid hok
  have H1 := Lib.hid h1
  have D1 := Lib.hid (d_lt a1 b1 c1)
  clear hr hok h1 hn
  go_upto_region 6 with (fail)
  have C1 := Lib.hid (fun (wx : World) (hb : Below w5.heap.size w5 wx) => row0_any (w := wx) (o := 0) a1 b1 c1 H1.out.1 H1.out.2.1 H1.out.2.2 (K5.out.2.1.keep hb) rfl rfl rfl)
  have Y0 := Lib.hid (show Below w5.heap.size w5 w5.drew from below_draws (Below.refl _ _) 1)
  obtain ⟨X1, hX1⟩ : ∃ X, X = dX a1 b1 c1 := ⟨_, rfl⟩
  obtain ⟨A1, hA1⟩ : ∃ X, X = dA a1 b1 c1 := ⟨_, rfl⟩
  obtain ⟨B1, hB1⟩ : ∃ X, X = dB a1 b1 c1 := ⟨_, rfl⟩
  rw [← hX1, ← hA1, ← hB1] at C1 D1
  clear hX1 hA1 hB1
  have k5 : ∀ j, w5.drew.cell? ⟨nb, j, none⟩ = (#[.int .i64 (N : Int)] : Array Value)[j]? := K5.out.1.rd
  refine wp_region_held_drew (S := fun w' => ∀ j, w'.cell? ⟨nb, j, none⟩ = (#[.int .i64 (N : Int)] : Array Value)[j]?) (by kernel_rfl) k5 (fun hHeld => ?_)
  refine wpAnyH_take (i := 0) (oi := ?_) (v := ?_) ?_ ?_ ?_ ?_ ?_ ?_ ?_ ?_
  rotate_left 2
  · simp only [List.getElem?_toArray, List.getElem?_cons_succ, List.getElem?_cons_zero]; rfl
  · kernel_rfl
  · kernel_rfl
  · kernel_rfl
  · exact fun _ _ _ h => h
  · refine Or.inl ⟨by rfl, ?_⟩
    intro w' hSw
    (try dsimp only at hSw)
    go_simp
    all_goals (with_reducible rfl)
  · assumption
  try simp only [Act.put, List.setIfInBounds_toArray, List.set_cons_zero, List.set_cons_succ]
  refine wpAnyH_take (i := 1) (oi := ?_) (v := ?_) ?_ ?_ ?_ ?_ ?_ ?_ ?_ ?_
  rotate_left 2
  · simp only [List.getElem?_toArray, List.getElem?_cons_succ, List.getElem?_cons_zero]; rfl
  · kernel_rfl
  · kernel_rfl
  · kernel_rfl
  · exact fun _ _ _ h => h
  · refine Or.inl ⟨by rfl, ?_⟩
    intro w' hSw
    (try dsimp only at hSw)
    go_simp
    all_goals (with_reducible rfl)
  · assumption
  try simp only [Act.put, List.setIfInBounds_toArray, List.set_cons_zero, List.set_cons_succ]
  refine wpAnyH_ready (rs := [2]) (by kernel_rfl) (by simp) ?_
  refine AllReadyH.cons (o := ?_) ?_ ?_ ?_
  rotate_left 1
  · simp only [List.getElem?_toArray, List.getElem?_cons_succ, List.getElem?_cons_zero]; rfl
  rotate_left 1
  · exact AllReadyH.nil
  intro K hK
  go_simp
  ((with_reducible refine (C1.out _ Y0.out).mono ?_); rintro e wa ⟨g1, rfl, q1, ba⟩; have G1 := Lib.hid q1; have Y1 := Lib.hid (below_in Y0.out ba); clear q1 ba)
  refine hK.out _ _ ((K5.out.1.keep Y1.out).rd) (fun hHeld => ?_)
  clear hK K
  try simp only [Act.put, List.setIfInBounds_toArray, List.set_cons_zero, List.set_cons_succ]
  refine wpAnyH_strong (S' := fun wx => (∀ j, wx.cell? ⟨nb, j, none⟩ = (#[.int .i64 (N : Int)] : Array Value)[j]?) ∧ wx.cell? ⟨g1, 0, none⟩ = some (.int .u64 (X1 : Int)) ∧ wx.cell? ⟨g1, 1, none⟩ = some (.int .u64 (A1 : Int)) ∧ wx.cell? ⟨g1, 2, none⟩ = some (.int .u64 (B1 : Int))) (fun _ h => h.1) _ _ _ _ ?_
  have hHeld2 := And.intro hHeld G1.out
  clear hHeld
  refine wpAnyH_take (i := 3) (oi := ?_) (v := ?_) ?_ ?_ ?_ ?_ ?_ ?_ ?_ ?_
  rotate_left 2
  · simp only [List.getElem?_toArray, List.getElem?_cons_succ, List.getElem?_cons_zero]; rfl
  · kernel_rfl
  · kernel_rfl
  · kernel_rfl
  · exact fun _ _ _ h => h
  · refine Or.inl ⟨by rfl, ?_⟩
    intro w' hSw
    (try dsimp only at hSw)
    go_simp
    all_goals (with_reducible rfl)
  · assumption
  try simp only [Act.put, List.setIfInBounds_toArray, List.set_cons_zero, List.set_cons_succ]
  refine wpAnyH_take (i := 4) (oi := ?_) (v := ?_) ?_ ?_ ?_ ?_ ?_ ?_ ?_ ?_
  rotate_left 2
  · simp only [List.getElem?_toArray, List.getElem?_cons_succ, List.getElem?_cons_zero]; rfl
  · kernel_rfl
  · kernel_rfl
  · kernel_rfl
  · exact fun _ _ _ h => h
  · refine Or.inl ⟨by rfl, ?_⟩
    intro w' hSw
    (try dsimp only at hSw)
    go_simp
    all_goals (with_reducible rfl)
  · assumption
  try simp only [Act.put, List.setIfInBounds_toArray, List.set_cons_zero, List.set_cons_succ]
  refine wpAnyH_ready (rs := [5]) (by kernel_rfl) (by simp) ?_
  refine AllReadyH.cons (o := ?_) ?_ ?_ ?_
  rotate_left 1
  · simp only [List.getElem?_toArray, List.getElem?_cons_succ, List.getElem?_cons_zero]; rfl
  rotate_left 1
  · exact AllReadyH.nil
  intro K hK
  go_simp
  (refine (show Calls Try.prog 8 #[.int .i64 (N : Int), .agg #[.int .u64 X1, .int .u64 A1, .int .u64 B1]] wa _ from plnew_any X1 A1 B1 D1.out.1 D1.out.2.1 D1.out.2.2 N HNN.out.2.1 (by have := HNN.out.2.2; omega) wa).mono ?_); rintro e wb ⟨Q, rfl, p1, n1, u1, bb⟩; have P1 := Lib.hid (And.intro p1 (And.intro n1 u1)); have G2 := Lib.hid (three_kept G1.out bb); have Y2 := Lib.hid (below_in Y1.out bb); clear p1 n1 u1 bb
  refine hK.out _ _ (And.intro ((K5.out.1.keep Y2.out).rd) G2.out) (fun hHeld => ?_)
  clear hK K
  try simp only [Act.put, List.setIfInBounds_toArray, List.set_cons_zero, List.set_cons_succ]
  refine wpAnyH_take (i := 6) (oi := ?_) (v := ?_) ?_ ?_ ?_ ?_ ?_ ?_ ?_ ?_
  rotate_left 2
  · simp only [List.getElem?_toArray, List.getElem?_cons_succ, List.getElem?_cons_zero]; rfl
  · kernel_rfl
  · kernel_rfl
  · kernel_rfl
  · exact fun _ _ _ h => h
  · refine Or.inl ⟨by rfl, ?_⟩
    intro w' hSw
    (try dsimp only at hSw)
    go_simp
    all_goals (with_reducible rfl)
  · assumption
  try simp only [Act.put, List.setIfInBounds_toArray, List.set_cons_zero, List.set_cons_succ]
  refine wpAnyH_done (by kernel_rfl) ?_ _
  clear hHeld hHeld2 k5
  have HQ := Lib.hid (show (∀ k, Q.all k → rb < k ∧ k < wb.heap.size) ∧ w.heap.size ≤ nb ∧ nb < rb from ⟨fun k hk => ⟨by have := P1.out.2.2 k hk; have := Y1.out.size; have := K5.out.2.2.2.2; omega, P1.out.1.lt k hk⟩, by have := HB.out; omega, by have := HB.out; omega⟩)
  have TB := Lib.hid (And.intro P1.out.1 (And.intro (K5.out.1.keep Y2.out) (And.intro (K5.out.2.2.1.keep Y2.out) (below_in K5.out.2.2.2.1 Y2.out))))
  have NN := Lib.hid P1.out.2.1
  clear C1 D1 G1 G2 P1 Y0 Y1 Y2 K5 H1 r2 r2w
  have r0 := TB.out.2.1.rd
  obtain ⟨i0, hi, hz0, hz1, hz2⟩ := info_parts info_plc
  have hmk := make_rws encP_len (by omega) ((⟨#[]⟩, (0, 0, 0, 0), false) : Plc) (P := Try.prog) (t := 33) (e := 40) rfl Try.underlying33 hi hz0 hz1 hz2 N (by have := HNN.out; omega) (by have := HNN.out; omega)
  have tN : (N : Int) ≤ 8 := by have := HNN.out; omega
  clear hi hz0 hz1 hz2
  go_upto_region 8 with (fail)
  obtain ⟨wc, hwc, k6, l6, s6⟩ := box_new wb (rws encP (List.replicate N ((⟨#[]⟩, (0, 0, 0, 0), false) : Plc))).toArray 40
  obtain ⟨wd, hwd, k7, l7, s7⟩ := box_new wc #[.slice (some ⟨wb.heap.size, 0, none⟩) N N] 33
  rw [hwc, hwd]
  obtain ⟨mb, hmb⟩ : ∃ x, x = wb.heap.size + 1 := ⟨_, rfl⟩
  obtain ⟨pb, hpb⟩ : ∃ x, x = wb.heap.size := ⟨_, rfl⟩
  rw [s6, ← hmb, ← hpb] at k7
  rw [← hpb] at k6
  rw [← hmb, ← hpb]
  have RQ0 := Lib.hid (show RQ w Q nb rb pb mb N from ⟨fun k hk => by have := HQ.out.1 k hk; omega, HQ.out.2.1, HQ.out.2.2, by have := lt_of_block TB.out.2.2.1; omega, by omega, NN.out⟩)
  have R0 := Lib.hid (show RS w wd Q nb rb pb mb N (kNew N) (List.replicate N (0, 0, 0, 0)) (List.replicate N ((⟨#[]⟩, (0, 0, 0, 0), false) : Plc)) from
    ⟨(TB.out.1.keep l6).keep l7, (TB.out.2.1.keep l6).keep l7, (TB.out.2.2.1.keep l6).keep l7, k7, k6.keep l7, ⟨by rw [List.length_replicate], fun j key c h => (by
      rw [List.getElem?_replicate] at h
      split at h <;> simp at h), fun j key c h => rfl⟩, below_in (below_in TB.out.2.2.2 l6) l7⟩)
  have HMB := Lib.hid (show wd.heap.size = mb + 1 by omega)
  have r0 := R0.out.kn.rd
  clear hwc hwd k6 k7 l6 l7 s6 s7 hmb hpb TB HQ NN hmk
  go_wp2
  go_loopg [9, 10] N (fun k xf si wr => ∃ i : Nat, i ≤ N ∧ Hid (k = N - i) ∧ si = .int .i64 ((N : Int) - 1 - (i : Int)) ∧ Hid (wr.ownsRow (mb + 1) 3 1 xf i (itC ((List.range N).reverse.take i))) ∧ Hid (RS w wr Q nb rb pb mb N (kNew N) (List.replicate N (0, 0, 0, 0)) (List.replicate N ((⟨#[]⟩, (0, 0, 0, 0), false) : Plc))) ∧ Hid (mb + 1 ≤ wr.heap.size))
  case atStart => exact ⟨0, by omega, Lib.hid rfl, by first | rfl | go_num, Lib.hid (World.ownsRow_nil _ _ _ _), R0, Lib.hid (by have := HMB.out; omega)⟩
  case round =>
    obtain ⟨i, hi, HKK, rfl, HOW, RI, HSZ⟩ := hrel
    by_cases hin : i < N
    · obtain ⟨q, hq⟩ : ∃ q : Nat, (N : Int) - 1 - (i : Int) = (q : Int) := ⟨N - 1 - i, by omega⟩
      have HQ := Lib.hid hq
      rw [hq]
      have HT := Lib.hid (show itC ((List.range N).reverse.take (i + 1)) = itC ((List.range N).reverse.take i) ++ [.int .i64 (q : Int)] from by rw [rev_take hin, show N - 1 - i = q by omega]; simp [itC])
      have hqb : (q : Int) ≤ 8 := by omega
      obtain ⟨iI, hI, hI0, hI1, hI2⟩ := info_parts info_int
      clear hq
      go_wp2_with (at_builtin; refine G.wpList_push (by rfl) _ _ (by rfl) (by rfl) (by rfl) Try.underlying34 hI hI0 hI1 hI2 (by rfl) (by omega) HOW.out HSZ.out [.int .i64 (q : Int)] (by rfl) (by simp [Value.oneCell']) (by omega) (by unfold maxLen; omega) ?_; intro g1 c1 w5 ho5 hf5 hn5; have HO5 := Lib.hid ho5; have HF5 := Lib.hid hf5; clear ho5 hf5 hn5)
      go_roundg (N - (i + 1))
      case measure => have := HKK.out; omega
      case rel =>
        have hq := HQ.out
        exact ⟨i + 1, by omega, Lib.hid rfl, congrArg (Value.int .i64) (by omega), Lib.hid (by rw [HT.out]; exact HO5.out), Lib.hid (RI.out.fr RQ0.out HF5.out (fun k hk => by have := G.own_base HOW.out k hk; omega)), Lib.hid (Nat.le_trans HSZ.out HF5.out.size)⟩
    · have hie : N = i := by omega
      subst hie
      rw [show (N : Int) - 1 - (N : Int) = -1 by omega]
      have HOW2 := Lib.hid (show wr.ownsRow (mb + 1) 3 1 u9 (kNew N).fl.length (itC (kNew N).fl) from by
        have := HOW.out
        rw [List.take_of_length_le (by simp)] at this
        show wr.ownsRow (mb + 1) 3 1 u9 (List.range N).reverse.length (itC (List.range N).reverse)
        simpa using this)
      clear HOW
      go_wp2
      go_loopg [9, 52] n (fun k xf si wr => ∃ (j : Nat) (σ : KSt) (C : List Cel) (M : List Plc), j ≤ n ∧ Hid (k = n - j) ∧ si = .int .i64 (j : Int) ∧ Hid (wr.ownsRow (mb + 1) 3 1 xf σ.fl.length (itC σ.fl)) ∧ Hid (RS w wr Q nb rb pb mb N σ C M) ∧ Hid (mb + 1 ≤ wr.heap.size))
      case atStart => exact ⟨0, _, _, _, by omega, Lib.hid rfl, rfl, HOW2, RI, HSZ⟩
      case round =>
        obtain ⟨j, σ, C, M, hj, HK2, rfl, HOW, RI2, HSZ2⟩ := hrel
        by_cases hjn : j < n
        · obtain ⟨b, off, rfl, hbl, hc⟩ := (HR.out.below RI2.out.bl).at_ (by omega)
          have hil : j < L.length := by rw [HR.out.len]; exact hjn
          obtain ⟨⟨kd, ky, at'⟩, ha⟩ : ∃ a, L[j]? = some a := ⟨_, List.getElem?_eq_getElem hil⟩
          have hoka := HO.out _ (List.mem_of_getElem? ha)
          have kr0 : wr.cell? ⟨b, off + j * 3, none⟩ = some (.int .i64 kd) := hc j _ ha 0 (by omega)
          have kr1 : wr.cell? ⟨b, off + j * 3 + 1, none⟩ = some (.string ky) := hc j _ ha 1 (by omega)
          have kr2 : wr.cell? ⟨b, off + j * 3 + 2, none⟩ = some (.int .i64 at') := hc j _ ha 2 (by omega)
          unfold okISI at hoka
          simp only at hoka
          obtain ⟨hkd, hky, hat⟩ := hoka
          obtain ⟨x1, x2, ex1, kr, kw, ex2, bl2, kc2⟩ := box3 wr 36 (.int .i64 0) (.string ⟨#[]⟩) (.int .i64 0) (.int .i64 kd) (.string ky) (.int .i64 at')
          have T2 := Lib.hid (And.intro (RI2.out.keep bl2) (And.intro (G.own_below HOW.out bl2) (show mb + 1 ≤ wr.heap.size ∧ wr.heap.size < x2.heap.size from ⟨HSZ2.out, lt_of_block kc2⟩)))
          have KC := Lib.hid kc2
          have t1 : (j : Int) < (n : Int) := by omega
          have HJN := Lib.hid hjn
          have hky' : (ky.size : Int) ≤ 9223372036854775807 := by have : ky.size ≤ 2 ^ 63 - 1 := hky; omega
          have HKY := Lib.hid hky
          have HAT := Lib.hid hat
          have kc3 := kc2.rd
          obtain ⟨r3, hr3, hb3⟩ := modP3 kd
          clear hc hbl hil ha hjn hky bl2 kc2 hat hkd
          go_upto_region 16 with (fail)
          clear kr kw ex1 kr0 kr1 kr2 ex2
          obtain ⟨cb, hcb⟩ : ∃ cb, cb = wr.heap.size := ⟨_, rfl⟩
          have HGL := Lib.hid (show ∀ g, u9.ownBlock = some g → g < cb from fun g hg => by rw [hcb]; exact G.own_lt HOW.out g hg)
          rw [← hcb] at KC kc3 T2 ⊢
          clear hcb
          have hr1 := T2.out.1.kr.rd
          have hr1w := T2.out.1.kr.wr
          by_cases h100 : (100 : Int) < (ky.size : Int)
          · go_wp2
            exact bodyM_early rfl Try.underlying4 rfl rfl rfl T2.out.1.kr T2.out.1.bl (by have := RQ0.out.n; have := RQ0.out.nr; omega)
          · have km := T2.out.1.km.rd
            go_wp2
            go_loopg [62, 13] N (fun k si sa wz => ∃ t : Nat, t ≤ N ∧ Hid (k = N - t) ∧ si = .int .i64 (t : Int) ∧ sa = .int .i64 (plZ (posN t σ.K ky)) ∧ Hid (Below x2.heap.size x2 wz))
            case atStart => exact ⟨0, by omega, Lib.hid rfl, rfl, rfl, Lib.hid (Below.refl _ _)⟩
            case round =>
              obtain ⟨t, ht, HK3, rfl, rfl, HBz⟩ := hrel
              have RZ := Lib.hid (T2.out.1.keep HBz.out)
              by_cases htn : t < N
              · as_aux_lemma =>
                  have hml : t < M.length := by rw [RZ.out.tab.len]; exact htn
                  obtain ⟨⟨kt, ct, bt⟩, hmt⟩ : ∃ a, M[t]? = some a := ⟨_, List.getElem?_eq_getElem hml⟩
                  have m0 : wr.cell? ⟨pb, t * 6, none⟩ = some (.string kt) := rws_cell encP_len RZ.out.kp hmt (j := 0) (by omega)
                  have m1 : wr.cell? ⟨pb, t * 6 + 1, none⟩ = some (.int .i64 ct.1) := rws_cell encP_len RZ.out.kp hmt (j := 1) (by omega)
                  have m2 : wr.cell? ⟨pb, t * 6 + 2, none⟩ = some (.int .i64 ct.2.1) := rws_cell encP_len RZ.out.kp hmt (j := 2) (by omega)
                  have m3 : wr.cell? ⟨pb, t * 6 + 3, none⟩ = some (.int .i64 ct.2.2.1) := rws_cell encP_len RZ.out.kp hmt (j := 3) (by omega)
                  have m4 : wr.cell? ⟨pb, t * 6 + 4, none⟩ = some (.int .i64 ct.2.2.2) := rws_cell encP_len RZ.out.kp hmt (j := 4) (by omega)
                  have m5 : wr.cell? ⟨pb, t * 6 + 5, none⟩ = some (.bool bt) := rws_cell encP_len RZ.out.kp hmt (j := 5) (by omega)
                  obtain ⟨y1, y2, ey1, kyr, kyw, ey2, by2, ky2⟩ := box6 wr 40 (.string ⟨#[]⟩) (.int .i64 0) (.int .i64 0) (.int .i64 0) (.int .i64 0) (.bool false) (.string kt) (.int .i64 ct.1) (.int .i64 ct.2.1) (.int .i64 ct.2.2.1) (.int .i64 ct.2.2.2) (.bool bt)
                  have BY := Lib.hid (below_in HBz.out by2)
                  have kc4 := (KC.out.keep BY.out).rd
                  have ky3 := ky2.rd
                  have t3 : (t : Int) < (N : Int) := by omega
                  have HTN := Lib.hid htn
                  have HMT := Lib.hid hmt
                  clear hml by2 ky2 kc3 htn
                  cases bt with
                  | false =>
                    have HPN := Lib.hid (show posN (t + 1) σ.K ky = posN t σ.K ky from posN_same (by rw [RZ.out.tab.no t kt ct hmt]; simp))
                    clear hmt
                    go_upto_region 22 with (fail)
                    clear ey1 kyr kyw ey2 m0 m1 m2 m3 m4 m5
                    go_wp2
                    go_roundg (N - (t + 1))
                    case measure => have := HK3.out; have := HTN.out; omega
                    case rel => exact ⟨t + 1, HTN.out, Lib.hid rfl, by go_num, by rw [HPN.out], BY⟩
                  | true =>
                    have hK := (RZ.out.tab.yes t kt ct hmt).1
                    by_cases hkk : kt = ky
                    · have HPN := Lib.hid (show posN (t + 1) σ.K ky = some t from posN_up (by rw [hK, hkk]) RZ.out.at_.ix.uni.1)
                      subst hkk
                      clear hmt hK
                      go_upto_region 22 with (fail)
                      clear ey1 kyr kyw ey2 m0 m1 m2 m3 m4 m5
                      go_wp2
                      go_roundg (N - (t + 1))
                      case measure => have := HK3.out; have := HTN.out; omega
                      case rel => exact ⟨t + 1, HTN.out, Lib.hid rfl, by go_num, by rw [HPN.out]; rfl, BY⟩
                    · have HPN := Lib.hid (show posN (t + 1) σ.K ky = posN t σ.K ky from posN_same (by rw [hK]; intro e; injection e with e; exact hkk e))
                      have hks := str_ne hkk
                      clear hmt hK
                      go_upto_region 22 with (fail)
                      clear ey1 kyr kyw ey2 m0 m1 m2 m3 m4 m5
                      go_wp2
                      go_roundg (N - (t + 1))
                      case measure => have := HK3.out; have := HTN.out; omega
                      case rel => exact ⟨t + 1, HTN.out, Lib.hid rfl, by go_num, by rw [HPN.out], BY⟩
              · have hte : N = t := by omega
                subst hte
                obtain ⟨wz, hwz⟩ : ∃ wz, wz = wr := ⟨_, rfl⟩
                rw [← hwz] at HBz RZ ⊢
                clear hwz
                have kc5 := (KC.out.keep HBz.out).rd
                have KZ := Lib.hid (KC.out.keep HBz.out)
                have OZ := Lib.hid (G.own_below T2.out.2.1 HBz.out)
                have hz : ∃ z : Int, (r3 + 3) % 3 = z ∧ (z = 0 ∨ z = 1 ∨ z = 2) := ⟨_, rfl, by omega⟩
                obtain ⟨z, hz, hz3⟩ := hz
                have SZ := Lib.hid (show mb + 1 ≤ wz.heap.size from by have := HBz.out.size; have := T2.out.2.2; omega)
                have HCB := Lib.hid (show cb < wz.heap.size ∧ (∀ g, u9.ownBlock = some g → g < cb) ∧ mb < cb from ⟨lt_of_block KZ.out, HGL.out, by have := T2.out.2.2; omega⟩)
                have HZ3 := Lib.hid hz3
                obtain ⟨av, hav⟩ : ∃ av, av = plZ (posN N σ.K ky) := ⟨_, rfl⟩
                rw [← hav]
                have HAV := Lib.hid hav
                clear kc3 hr1 hr1w km hz3 hav
                go_upto_block 6 with (fail)
                go_cut [9, 16, 17, 18, 19, 20] from 82 to 216 (fun v _ _ _ _ _ wx => ∃ (σ' : KSt) (C' : List Cel) (M' : List Plc), Hid (wx.ownsRow (mb + 1) 3 1 v σ'.fl.length (itC σ'.fl)) ∧ Hid (RS w wx Q nb rb pb mb N σ' C' M') ∧ Hid (mb + 1 ≤ wx.heap.size))
                case first =>
                  obtain ⟨Af, cf, rfl, hcf, _, hfg⟩ := G.own_at OZ.out
                  have hqn : σ.fl.length ≤ N := by have := RZ.out.at_.ix.uni.2.2.2.le; rw [RQ0.out.qn] at this; omega
                  have tq : (σ.fl.length : Int) ≤ 8 := by omega
                  have HFG := Lib.hid (And.intro hcf hfg)
                  clear hcf hfg hqn
                  have hz3 := HZ3.out
                  rcases hz3 with rfl | rfl | rfl
                  · have CN := Lib.hid (fun wx => new_any at' 1 wx)
                    obtain ⟨r, hr⟩ : ∃ r, r = σ.put N ky := ⟨_, rfl⟩
                    have CP := Lib.hid (fun wx (hb : Below wz.heap.size wz wx) => show Calls Try.prog 10 #[.pointer (some ⟨Q.p, 0, none⟩), .string ky, celV (at', at', 1, 0)] wx (fun e w' => e = .returned (plP Q r.2) ∧ PlAt w' Q r.1 (plSet C (at', at', 1, 0) r.2) ∧ Fr Q.F wz w' ∧ Blk w' cb 36 #[.int .i64 kd, .string ky, .int .i64 at']) from by
                      have := plput_any ky HKY.out (at', at', 1, 0) wx (RZ.out.at_.keep hb)
                      rw [RQ0.out.qn, ← hr] at this
                      exact this.mono (fun e w' hh => ⟨hh.1, hh.2.1, (Fr.of_below hb).trans hh.2.2, (KZ.out.keep hb).fr hh.2.2 (fun hF => by have := (RQ0.out.q _ (Or.inl hF)).2; have := RQ0.out.pm; have := HCB.out.2.2; omega)⟩))
                    have HPC := Lib.hid (σ.put_cases N ky)
                    have hpc := HPC.out
                    have D0 := Lib.hid (show Below wz.heap.size wz wz.drew from below_draws (Below.refl _ _) 1)
                    rcases hpc with ⟨i0, hp, hput⟩ | ⟨hp, hwhy, hput⟩ | ⟨hp, hlen, l, i0, hfl, hput⟩
                    · rw [hr, hput] at CP
                      as_aux_lemma =>
                        simp only [plP, plSet] at CP
                        have hav := HAV.out
                        rw [hp] at hav
                        simp only [plZ] at hav
                        subst hav
                        have u1 : decide ((i0 : Int) < 0) = false := by rw [decide_eq_false_iff_not]; omega
                        clear hr hput hp
                        go_upto_region 32 with (fail)
                        have k8 : ∀ x, wz.drew.cell? ⟨cb, x, none⟩ = (#[.int .i64 kd, .string ky, .int .i64 at'] : Array Value)[x]? := kc5
                        go_region_held3 (fun w' => ∀ x, w'.cell? ⟨cb, x, none⟩ = (#[.int .i64 kd, .string ky, .int .i64 at'] : Array Value)[x]?) (assumption)
                          (first
                            | (go_at_call 11; ((with_reducible refine (CN.out _).mono ?_); rintro e wa ⟨rfl, ba⟩; have D1 := Lib.hid (below_in D0.out ba); have z1 := (KZ.out.keep D1.out).rd; clear ba))
                            | (go_at_call 10; ((with_reducible refine (CP.out _ D1.out).mono ?_); rintro e wy ⟨rfl, pa, fa, ka⟩; have PA := Lib.hid (And.intro pa fa); have z2 := ka.rd; clear pa fa ka)))
                        clear k8 z1 CN CP kc5
                        go_wp2
                        go_meet
                        exact ⟨σ, C, M, Lib.hid (own_op OZ.out RQ0.out PA.out.2), Lib.hid ((RZ.out.parts.op RQ0.out PA.out.2).with_ PA.out.1 RZ.out.tab), Lib.hid (Nat.le_trans SZ.out PA.out.2.size)⟩
                    · rw [hr, hput] at CP
                      as_aux_lemma =>
                        simp only [plP, plSet] at CP
                        have hav := HAV.out
                        rw [hp] at hav
                        simp only [plZ] at hav
                        subst hav
                        by_cases hf0 : σ.fl.length = 0
                        · have u2 : decide ((0 : Int) < (σ.fl.length : Int)) = false := by rw [decide_eq_false_iff_not]; omega
                          have u2' : ¬ 0 < σ.fl.length := by omega
                          clear hr hput hp hwhy hf0
                          go_upto_region 32 with (fail)
                          have k8 : ∀ x, wz.drew.cell? ⟨cb, x, none⟩ = (#[.int .i64 kd, .string ky, .int .i64 at'] : Array Value)[x]? := kc5
                          go_region_held3 (fun w' => ∀ x, w'.cell? ⟨cb, x, none⟩ = (#[.int .i64 kd, .string ky, .int .i64 at'] : Array Value)[x]?) (assumption)
                            (first
                              | (go_at_call 11; ((with_reducible refine (CN.out _).mono ?_); rintro e wa ⟨rfl, ba⟩; have D1 := Lib.hid (below_in D0.out ba); have z1 := (KZ.out.keep D1.out).rd; clear ba))
                              | (go_at_call 10; ((with_reducible refine (CP.out _ D1.out).mono ?_); rintro e wy ⟨rfl, pa, fa, ka⟩; have PA := Lib.hid (And.intro pa fa); have z2 := ka.rd; clear pa fa ka)))
                          clear k8 z1 CN CP kc5
                          go_wp2
                          go_meet
                          exact ⟨σ, C, M, Lib.hid (own_op OZ.out RQ0.out PA.out.2), Lib.hid ((RZ.out.parts.op RQ0.out PA.out.2).with_ PA.out.1 RZ.out.tab), Lib.hid (Nat.le_trans SZ.out PA.out.2.size)⟩
                        · have h64 : 64 < ky.size := by
                            rcases hwhy with h | h
                            · exact h
                            · rw [h] at hf0; exact absurd rfl hf0
                          have u2 : decide ((0 : Int) < (σ.fl.length : Int)) = true := by rw [decide_eq_true_iff]; omega
                          have u3 : decide ((ky.size : Int) ≤ 64) = false := by rw [decide_eq_false_iff_not]; omega
                          have u2' : 0 < σ.fl.length := by omega
                          clear hr hput hp hwhy h64 hf0
                          go_upto_region 32 with (fail)
                          have k8 : ∀ x, wz.drew.cell? ⟨cb, x, none⟩ = (#[.int .i64 kd, .string ky, .int .i64 at'] : Array Value)[x]? := kc5
                          go_region_held3 (fun w' => ∀ x, w'.cell? ⟨cb, x, none⟩ = (#[.int .i64 kd, .string ky, .int .i64 at'] : Array Value)[x]?) (assumption)
                            (first
                              | (go_at_call 11; ((with_reducible refine (CN.out _).mono ?_); rintro e wa ⟨rfl, ba⟩; have D1 := Lib.hid (below_in D0.out ba); have z1 := (KZ.out.keep D1.out).rd; clear ba))
                              | (go_at_call 10; ((with_reducible refine (CP.out _ D1.out).mono ?_); rintro e wy ⟨rfl, pa, fa, ka⟩; have PA := Lib.hid (And.intro pa fa); have z2 := ka.rd; clear pa fa ka)))
                          clear k8 z1 CN CP kc5
                          go_wp2
                          go_meet
                          exact ⟨σ, C, M, Lib.hid (own_op OZ.out RQ0.out PA.out.2), Lib.hid ((RZ.out.parts.op RQ0.out PA.out.2).with_ PA.out.1 RZ.out.tab), Lib.hid (Nat.le_trans SZ.out PA.out.2.size)⟩
                    · rw [hr, hput] at CP
                      simp only [plP, plSet] at CP
                      have hav := HAV.out
                      rw [hp] at hav
                      simp only [plZ] at hav
                      subst hav
                      obtain ⟨p, hpl⟩ : ∃ p, p = l.length := ⟨_, rfl⟩
                      have hfp : σ.fl.length = p + 1 := by rw [hfl, hpl]; simp
                      obtain ⟨gf, rfl, _, _, _, _⟩ := HFG.out.2 (by omega)
                      have hi0 : i0 < N := by
                        have := RZ.out.at_.ix.uni.2.2.2.free (i := i0) (by rw [hfl]; simp)
                        rw [RQ0.out.qn] at this; exact this.1
                      have OZ2 := Lib.hid (show wz.ownsRow (mb + 1) 3 1 (.slice (some ⟨gf, 0, none⟩) (p + 1) cf) (p + 1) (itC l ++ [.int .i64 (i0 : Int)]) from by
                        have := OZ.out
                        rw [hfp, hfl] at this
                        simpa [itC] using this)
                      as_aux_lemma =>
                        rw [hfp]
                        have u2 : decide ((0 : Int) < ((p + 1 : Nat) : Int)) = true := by rw [decide_eq_true_iff]; omega
                        have u3 : decide ((ky.size : Int) ≤ 64) = true := by rw [decide_eq_true_iff]; omega
                        have HPL := Lib.hid (And.intro hpl hi0)
                        obtain ⟨⟨kt, ct, bt⟩, hmt⟩ : ∃ a, M[i0]? = some a := ⟨_, List.getElem?_eq_getElem (by rw [RZ.out.tab.len]; exact hi0)⟩
                        have HMT := Lib.hid hmt
                        clear hmt
                        clear hr hput hp hlen hpl hfl hi0
                        go_upto_region 32 with (fail)
                        have k8 : ∀ x, wz.drew.cell? ⟨cb, x, none⟩ = (#[.int .i64 kd, .string ky, .int .i64 at'] : Array Value)[x]? := kc5
                        go_region_held3 (fun w' => ∀ x, w'.cell? ⟨cb, x, none⟩ = (#[.int .i64 kd, .string ky, .int .i64 at'] : Array Value)[x]?) (assumption)
                          (first
                            | (go_at_call 11; ((with_reducible refine (CN.out _).mono ?_); rintro e wa ⟨rfl, ba⟩; have D1 := Lib.hid (below_in D0.out ba); have z1 := (KZ.out.keep D1.out).rd; clear ba))
                            | (go_at_call 10; ((with_reducible refine (CP.out _ D1.out).mono ?_); rintro e wy ⟨rfl, pa, fa, ka⟩; have PA := Lib.hid (And.intro pa (And.intro fa ka)); have z2 := ka.rd; clear pa fa ka)))
                        clear k8 z1 CP kc5
                        have RPy := Lib.hid (RZ.out.parts.op RQ0.out PA.out.2.1)
                        have OYy := Lib.hid (own_op OZ2.out RQ0.out PA.out.2.1)
                        have SB := Lib.hid (fun (wx : World) (hb : Below wy.heap.size wy wx) => show (∀ x, wx.cell? ⟨mb, x, none⟩ = (#[.slice (some ⟨pb, 0, none⟩) N N] : Array Value)[x]?) ∧ (∀ x, wx.cell? ⟨cb, x, none⟩ = (#[.int .i64 kd, .string ky, .int .i64 at'] : Array Value)[x]?) ∧ wx.cell? ⟨gf, p, none⟩ = some (.int .i64 (i0 : Int)) from
                          ⟨(RPy.out.km.keep hb).rd, (PA.out.2.2.keep hb).rd, by
                            rw [World.ownsRow.cellAt (G.own_below OYy.out hb) p (by omega), List.getElem?_append_right (by simp [itC, HPL.out.1])]
                            simp [itC, HPL.out.1]⟩)
                        have D2 := Lib.hid (show Below wy.heap.size wy wy.drew from below_draws (Below.refl _ _) 1)
                        have u5 : (i0 : Int) < (N : Int) := by have := HPL.out.2; omega
                        have u6 : IntKind.i64.wrap (((p + 1 : Nat) : Int) - 1) = (p : Int) := by rw [IntKind.wrap_i64]; omega
                        have u7 : IntKind.i64.wrap (p : Int) = (p : Int) := by rw [IntKind.wrap_i64]; omega
                        have u8 : (p : Int) < ((p + 1 : Nat) : Int) := by omega
                        have u9' : (p : Int) < (p : Int) + 1 := by omega
                        go_upto_region 37 with (fail)
                        refine wp_region_held_drew (S := fun wx => (∀ x, wx.cell? ⟨mb, x, none⟩ = (#[.slice (some ⟨pb, 0, none⟩) N N] : Array Value)[x]?) ∧ (∀ x, wx.cell? ⟨cb, x, none⟩ = (#[.int .i64 kd, .string ky, .int .i64 at'] : Array Value)[x]?) ∧ wx.cell? ⟨gf, p, none⟩ = some (.int .i64 (i0 : Int))) (by kernel_rfl) (SB.out _ D2.out) (fun hHeld => ?_)
                        refine wpAnyH_take (i := 0) (oi := ?_) (v := ?_) ?_ ?_ ?_ ?_ ?_ ?_ ?_ ?_
                        rotate_left 2
                        · simp only [List.getElem?_toArray, List.getElem?_cons_succ, List.getElem?_cons_zero]; rfl
                        · kernel_rfl
                        · kernel_rfl
                        · kernel_rfl
                        · exact fun _ _ _ h => h
                        · refine Or.inl ⟨by rfl, ?_⟩
                          intro w' hSw
                          (try dsimp only at hSw)
                          go_simp
                          all_goals (with_reducible rfl)
                        · assumption
                        try simp only [Act.put, List.setIfInBounds_toArray, List.set_cons_zero, List.set_cons_succ]
                        refine wpAnyH_take (i := 1) (oi := ?_) (v := ?_) ?_ ?_ ?_ ?_ ?_ ?_ ?_ ?_
                        rotate_left 2
                        · simp only [List.getElem?_toArray, List.getElem?_cons_succ, List.getElem?_cons_zero]; rfl
                        · kernel_rfl
                        · kernel_rfl
                        · kernel_rfl
                        · exact fun _ _ _ h => h
                        · refine Or.inl ⟨by rfl, ?_⟩
                          intro w' hSw
                          (try dsimp only at hSw)
                          go_simp
                          all_goals (with_reducible rfl)
                        · assumption
                        try simp only [Act.put, List.setIfInBounds_toArray, List.set_cons_zero, List.set_cons_succ]
                        refine wpAnyH_take (i := 2) (oi := ?_) (v := ?_) ?_ ?_ ?_ ?_ ?_ ?_ ?_ ?_
                        rotate_left 2
                        · simp only [List.getElem?_toArray, List.getElem?_cons_succ, List.getElem?_cons_zero]; rfl
                        · kernel_rfl
                        · kernel_rfl
                        · kernel_rfl
                        · exact fun _ _ _ h => h
                        · refine Or.inl ⟨by rfl, ?_⟩
                          intro w' hSw
                          (try dsimp only at hSw)
                          go_simp
                          all_goals (with_reducible rfl)
                        · assumption
                        try simp only [Act.put, List.setIfInBounds_toArray, List.set_cons_zero, List.set_cons_succ]
                        refine wpAnyH_take (i := 3) (oi := ?_) (v := ?_) ?_ ?_ ?_ ?_ ?_ ?_ ?_ ?_
                        rotate_left 2
                        · simp only [List.getElem?_toArray, List.getElem?_cons_succ, List.getElem?_cons_zero]; rfl
                        · kernel_rfl
                        · kernel_rfl
                        · kernel_rfl
                        · exact fun _ _ _ h => h
                        · refine Or.inl ⟨by rfl, ?_⟩
                          intro w' hSw
                          (try dsimp only at hSw)
                          go_simp
                          all_goals (with_reducible rfl)
                        · assumption
                        try simp only [Act.put, List.setIfInBounds_toArray, List.set_cons_zero, List.set_cons_succ]
                        refine wpAnyH_take (i := 4) (oi := ?_) (v := ?_) ?_ ?_ ?_ ?_ ?_ ?_ ?_ ?_
                        rotate_left 2
                        · simp only [List.getElem?_toArray, List.getElem?_cons_succ, List.getElem?_cons_zero]; rfl
                        · kernel_rfl
                        · kernel_rfl
                        · kernel_rfl
                        · exact fun _ _ _ h => h
                        · refine Or.inl ⟨by rfl, ?_⟩
                          intro w' hSw
                          (try dsimp only at hSw)
                          go_simp
                          all_goals (with_reducible rfl)
                        · assumption
                        try simp only [Act.put, List.setIfInBounds_toArray, List.set_cons_zero, List.set_cons_succ]
                        refine wpAnyH_take (i := 5) (oi := ?_) (v := ?_) ?_ ?_ ?_ ?_ ?_ ?_ ?_ ?_
                        rotate_left 2
                        · simp only [List.getElem?_toArray, List.getElem?_cons_succ, List.getElem?_cons_zero]; rfl
                        · kernel_rfl
                        · kernel_rfl
                        · kernel_rfl
                        · exact fun _ _ _ h => h
                        · refine Or.inl ⟨by rfl, ?_⟩
                          intro w' hSw
                          (try dsimp only at hSw)
                          go_simp
                          all_goals (with_reducible rfl)
                        · assumption
                        try simp only [Act.put, List.setIfInBounds_toArray, List.set_cons_zero, List.set_cons_succ]
                        refine wpAnyH_take (i := 6) (oi := ?_) (v := ?_) ?_ ?_ ?_ ?_ ?_ ?_ ?_ ?_
                        rotate_left 2
                        · simp only [List.getElem?_toArray, List.getElem?_cons_succ, List.getElem?_cons_zero]; rfl
                        · kernel_rfl
                        · kernel_rfl
                        · kernel_rfl
                        · exact fun _ _ _ h => h
                        · refine Or.inl ⟨by rfl, ?_⟩
                          intro w' hSw
                          (try dsimp only at hSw)
                          go_simp
                          all_goals (with_reducible rfl)
                        · assumption
                        try simp only [Act.put, List.setIfInBounds_toArray, List.set_cons_zero, List.set_cons_succ]
                        refine wpAnyH_take (i := 7) (oi := ?_) (v := ?_) ?_ ?_ ?_ ?_ ?_ ?_ ?_ ?_
                        rotate_left 2
                        · simp only [List.getElem?_toArray, List.getElem?_cons_succ, List.getElem?_cons_zero]; rfl
                        · kernel_rfl
                        · kernel_rfl
                        · kernel_rfl
                        · exact fun _ _ _ h => h
                        · refine Or.inl ⟨by rfl, ?_⟩
                          intro w' hSw
                          (try dsimp only at hSw)
                          go_simp
                          all_goals (with_reducible rfl)
                        · assumption
                        try simp only [Act.put, List.setIfInBounds_toArray, List.set_cons_zero, List.set_cons_succ]
                        refine wpAnyH_take (i := 8) (oi := ?_) (v := ?_) ?_ ?_ ?_ ?_ ?_ ?_ ?_ ?_
                        rotate_left 2
                        · simp only [List.getElem?_toArray, List.getElem?_cons_succ, List.getElem?_cons_zero]; rfl
                        · kernel_rfl
                        · kernel_rfl
                        · kernel_rfl
                        · exact fun _ _ _ h => h
                        · refine Or.inl ⟨by rfl, ?_⟩
                          intro w' hSw
                          (try dsimp only at hSw)
                          go_simp
                          all_goals (with_reducible rfl)
                        · assumption
                        try simp only [Act.put, List.setIfInBounds_toArray, List.set_cons_zero, List.set_cons_succ]
                        refine wpAnyH_take (i := 9) (oi := ?_) (v := ?_) ?_ ?_ ?_ ?_ ?_ ?_ ?_ ?_
                        rotate_left 2
                        · simp only [List.getElem?_toArray, List.getElem?_cons_succ, List.getElem?_cons_zero]; rfl
                        · kernel_rfl
                        · kernel_rfl
                        · kernel_rfl
                        · exact fun _ _ _ h => h
                        · refine Or.inl ⟨by rfl, ?_⟩
                          intro w' hSw
                          (try dsimp only at hSw)
                          go_simp
                          all_goals (with_reducible rfl)
                        · assumption
                        try simp only [Act.put, List.setIfInBounds_toArray, List.set_cons_zero, List.set_cons_succ]
                        refine wpAnyH_take (i := 10) (oi := ?_) (v := ?_) ?_ ?_ ?_ ?_ ?_ ?_ ?_ ?_
                        rotate_left 2
                        · simp only [List.getElem?_toArray, List.getElem?_cons_succ, List.getElem?_cons_zero]; rfl
                        · kernel_rfl
                        · kernel_rfl
                        · kernel_rfl
                        · exact fun _ _ _ h => h
                        · refine Or.inl ⟨by rfl, ?_⟩
                          intro w' hSw
                          (try dsimp only at hSw)
                          go_simp
                          all_goals (with_reducible rfl)
                        · assumption
                        try simp only [Act.put, List.setIfInBounds_toArray, List.set_cons_zero, List.set_cons_succ]
                        refine wpAnyH_ready (rs := [11]) (by kernel_rfl) (by simp) ?_
                        refine AllReadyH.cons (o := ?_) ?_ ?_ ?_
                        rotate_left 1
                        · simp only [List.getElem?_toArray, List.getElem?_cons_succ, List.getElem?_cons_zero]; rfl
                        rotate_left 1
                        · exact AllReadyH.nil
                        intro K hK
                        go_simp
                        ((with_reducible refine (CN.out _).mono ?_); rintro e wn ⟨rfl, bn⟩; have D3 := Lib.hid (below_in D2.out bn); have RPn := Lib.hid (RPy.out.keep D3.out); have hkw := RPn.out.kp.wr; have m0 : wn.cell? ⟨pb, i0 * 6, none⟩ = some (.string kt) := rws_cell encP_len RPn.out.kp HMT.out (j := 0) (by omega); have m1 : wn.cell? ⟨pb, i0 * 6 + 1, none⟩ = some (.int .i64 ct.1) := rws_cell encP_len RPn.out.kp HMT.out (j := 1) (by omega); have m2 : wn.cell? ⟨pb, i0 * 6 + 2, none⟩ = some (.int .i64 ct.2.1) := rws_cell encP_len RPn.out.kp HMT.out (j := 2) (by omega); have m3 : wn.cell? ⟨pb, i0 * 6 + 3, none⟩ = some (.int .i64 ct.2.2.1) := rws_cell encP_len RPn.out.kp HMT.out (j := 3) (by omega); have m4 : wn.cell? ⟨pb, i0 * 6 + 4, none⟩ = some (.int .i64 ct.2.2.2) := rws_cell encP_len RPn.out.kp HMT.out (j := 4) (by omega); have m5 : wn.cell? ⟨pb, i0 * 6 + 5, none⟩ = some (.bool bt) := rws_cell encP_len RPn.out.kp HMT.out (j := 5) (by omega); clear bn)
                        refine hK.out _ _ (SB.out _ D3.out) (fun hHeld => ?_)
                        clear hK K
                        try simp only [Act.put, List.setIfInBounds_toArray, List.set_cons_zero, List.set_cons_succ]
                        refine wpAnyH_take (i := 12) (oi := ?_) (v := ?_) ?_ ?_ ?_ ?_ ?_ ?_ ?_ ?_
                        rotate_left 2
                        · simp only [List.getElem?_toArray, List.getElem?_cons_succ, List.getElem?_cons_zero]; rfl
                        · kernel_rfl
                        · kernel_rfl
                        · kernel_rfl
                        · exact fun _ _ _ h => h
                        · refine Or.inl ⟨by rfl, ?_⟩
                          intro w' hSw
                          (try dsimp only at hSw)
                          go_simp
                          all_goals (with_reducible rfl)
                        · assumption
                        try simp only [Act.put, List.setIfInBounds_toArray, List.set_cons_zero, List.set_cons_succ]
                        refine wpAnyH_take (i := 13) (oi := ?_) (v := ?_) ?_ ?_ ?_ ?_ ?_ ?_ ?_ ?_
                        rotate_left 2
                        · simp only [List.getElem?_toArray, List.getElem?_cons_succ, List.getElem?_cons_zero]; rfl
                        · kernel_rfl
                        · kernel_rfl
                        · kernel_rfl
                        · exact fun _ _ _ h => h
                        · refine Or.inl ⟨by rfl, ?_⟩
                          intro w' hSw
                          (try dsimp only at hSw)
                          go_simp
                          all_goals (with_reducible rfl)
                        · assumption
                        try simp only [Act.put, List.setIfInBounds_toArray, List.set_cons_zero, List.set_cons_succ]
                        refine wpAnyH_ready (rs := [14]) (by kernel_rfl) (by simp) ?_
                        refine AllReadyH.cons (o := ?_) ?_ ?_ ?_
                        rotate_left 1
                        · simp only [List.getElem?_toArray, List.getElem?_cons_succ, List.getElem?_cons_zero]; rfl
                        rotate_left 1
                        · exact AllReadyH.nil
                        intro K hK
                        go_simp
                        (rw [rws_store6 encP_len RPn.out.kp (by rw [RZ.out.tab.len]; exact HPL.out.2) (ky, (at', at', 1, 0), true) rfl]; have R4 := Lib.hid (RS.poke RPn.out (PA.out.1.keep D3.out) RQ0.out (RZ.out.tab.put (s := ky) (c := (at', at', 1, 0)) (l := l) HPL.out.2 (by have := RZ.out.at_.len; have := RQ0.out.qn; omega))); have F4 := Lib.hid (fr_one wn pb (.cells (rws encP (M.set i0 (ky, (at', at', 1, 0), true))).toArray 40 (0, 0))); have O4 := Lib.hid (G.own_fr (G.own_below OYy.out D3.out) F4.out (fun g hg e => by have := G.own_base OYy.out g hg; have := RQ0.out.pm; omega)); have Z4 := Lib.hid ((PA.out.2.2.keep D3.out).fr F4.out (fun e => by have := HCB.out; have := RQ0.out.pm; omega)); have S4 := Lib.hid (Nat.le_trans SZ.out (Nat.le_trans PA.out.2.1.size (Nat.le_trans D3.out.size F4.out.size))); clear F4 m0 m1 m2 m3 m4 m5 hkw; generalize (setObj wn pb (.cells (rws encP (M.set i0 (ky, (at', at', 1, 0), true))).toArray 40 (0, 0))) = wq at R4 O4 Z4 S4 ⊢; have CG4 := Lib.hid (show wq.cell? ⟨gf, p, none⟩ = some (.int .i64 (i0 : Int)) from by rw [World.ownsRow.cellAt O4.out p (by omega), List.getElem?_append_right (by simp [itC, HPL.out.1])]; simp [itC, HPL.out.1]); skip)
                        refine hK.out _ _ ⟨R4.out.km.rd, Z4.out.rd, CG4.out⟩ (fun hHeld => ?_)
                        clear hK K
                        try simp only [Act.put, List.setIfInBounds_toArray, List.set_cons_zero, List.set_cons_succ]
                        refine wpAnyH_done (by kernel_rfl) ?_ _
                        clear hHeld SB CN u2 u3 u5 z2
                        have ucf : p ≤ cf := by have := HFG.out.1; omega
                        have ucf0 : ¬ cf = 0 := by have := HFG.out.1; omega
                        go_wp2
                        go_meet
                        exact ⟨⟨l, fun j => if j = i0 then some ky else σ.K j⟩, C.set i0 (at', at', 1, 0), M.set i0 (ky, (at', at', 1, 0), true), Lib.hid (by show World.ownsRow _ _ _ _ _ l.length (itC l); rw [← HPL.out.1]; exact G.own_pre O4.out (by omega) (by simp [itC, HPL.out.1])), R4, S4⟩
                  · as_aux_lemma =>
                      obtain ⟨r, hr⟩ : ∃ r, r = σ.del N ky := ⟨_, rfl⟩
                      have CR := Lib.hid (show Calls Try.prog 12 #[.pointer (some ⟨Q.p, 0, none⟩), .string ky] wz (fun e w' => e = .returned (remV C r.2) ∧ PlAt w' Q r.1 C ∧ Fr Q.F wz w' ∧ Blk w' cb 36 #[.int .i64 kd, .string ky, .int .i64 at']) from by
                        have := plremove_any ky HKY.out wz RZ.out.at_
                        rw [RQ0.out.qn, ← hr] at this
                        exact this.mono (fun e w' hh => ⟨hh.1, hh.2.1, hh.2.2, KZ.out.fr hh.2.2 (fun hF => by have := (RQ0.out.q _ (Or.inl hF)).2; have := RQ0.out.pm; have := HCB.out.2.2; omega)⟩))
                      have hpc := σ.del_cases N ky
                      rcases hpc with ⟨i0, hp, hdel⟩ | ⟨hp, hdel⟩
                      · obtain ⟨hi0, hK0⟩ := posN_some hp
                        obtain ⟨c0, hm0, hc0⟩ := RZ.out.tab.at_ hi0 hK0
                        rw [hr, hdel] at CR
                        simp only [remV] at CR
                        rw [show C.getD i0 (0, 0, 0, 0) = c0 by rw [List.getD_eq_getElem?_getD, hc0]; rfl] at CR
                        have hav := HAV.out
                        rw [hp] at hav
                        simp only [plZ] at hav
                        subst hav
                        have u5 : (i0 : Int) < (N : Int) := by omega
                        have HI := Lib.hid (And.intro hi0 (And.intro hm0 hc0))
                        clear hr hdel hp hi0 hK0 hm0 hc0
                        go_upto_region 41 with (go_at_call 12; refine CR.out.mono ?_; rintro e wa ⟨rfl, pa, fa, ka⟩; obtain ⟨y1, y2, ey1, ky1, kw1, ey2, by2, ky2⟩ := cbox wa c0; have PA := Lib.hid (And.intro pa (And.intro fa ka)); have BY := Lib.hid by2; have Y2 := Lib.hid ky2; clear pa fa ka by2 ky2)
                        clear ey1 ky1 kw1 ey2 kc5 CR
                        have RPy := Lib.hid ((RZ.out.parts.op RQ0.out PA.out.2.1).keep BY.out)
                        have OYy := Lib.hid (G.own_below (own_op OZ.out RQ0.out PA.out.2.1) BY.out)
                        have km := RPy.out.km.rd
                        have k18 := Y2.out.rd
                        have m0 : y2.cell? ⟨pb, i0 * 6, none⟩ = some (.string ky) := rws_cell encP_len RPy.out.kp HI.out.2.1 (j := 0) (by omega)
                        have m1 : y2.cell? ⟨pb, i0 * 6 + 1, none⟩ = some (.int .i64 c0.1) := rws_cell encP_len RPy.out.kp HI.out.2.1 (j := 1) (by omega)
                        have m2 : y2.cell? ⟨pb, i0 * 6 + 2, none⟩ = some (.int .i64 c0.2.1) := rws_cell encP_len RPy.out.kp HI.out.2.1 (j := 2) (by omega)
                        have m3 : y2.cell? ⟨pb, i0 * 6 + 3, none⟩ = some (.int .i64 c0.2.2.1) := rws_cell encP_len RPy.out.kp HI.out.2.1 (j := 3) (by omega)
                        have m4 : y2.cell? ⟨pb, i0 * 6 + 4, none⟩ = some (.int .i64 c0.2.2.2) := rws_cell encP_len RPy.out.kp HI.out.2.1 (j := 4) (by omega)
                        have m5 : y2.cell? ⟨pb, i0 * 6 + 5, none⟩ = some (.bool true) := rws_cell encP_len RPy.out.kp HI.out.2.1 (j := 5) (by omega)
                        go_quiet (fail)
                        have BD := Lib.hid (show Below y2.heap.size y2 (y2.drewN nq) from below_draws (Below.refl _ _) nq)
                        clear m0 m1 m2 m3 m4 m5 km k18
                        obtain ⟨y3, hy3⟩ : ∃ y, y = y2.drewN nq := ⟨_, rfl⟩
                        rw [← hy3] at BD ⊢
                        clear hy3
                        have RP3 := Lib.hid (RPy.out.keep BD.out)
                        have OY3 := Lib.hid (G.own_below OYy.out BD.out)
                        have PA3 := Lib.hid ((PA.out.1.keep BY.out).keep BD.out)
                        have S3 := Lib.hid (Nat.le_trans SZ.out (Nat.le_trans PA.out.2.1.size (Nat.le_trans BY.out.size BD.out.size)))
                        have km := RP3.out.km.rd
                        have kpw := RP3.out.kp.wr
                        have m5 : y3.cell? ⟨pb, i0 * 6 + 5, none⟩ = some (.bool true) := rws_cell encP_len RP3.out.kp HI.out.2.1 (j := 5) (by omega)
                        go_upto_region 45 with (fail)
                        rw [rws_store_one (v := .bool false) encP_len RP3.out.kp HI.out.2.1 (j := 5) (a' := (ky, c0, false)) rfl (by omega)]
                        have R4 := Lib.hid (RS.poke RP3.out PA3.out RQ0.out (RZ.out.tab.del (l := σ.fl ++ [i0]) HI.out.2.1))
                        have F4 := Lib.hid (fr_one y3 pb (.cells (rws encP (M.set i0 (ky, c0, false))).toArray 40 (0, 0)))
                        have O4 := Lib.hid (G.own_fr OY3.out F4.out (fun g hg e => by have := G.own_base OY3.out g hg; have := RQ0.out.pm; omega))
                        have S4 := Lib.hid (Nat.le_trans S3.out F4.out.size)
                        clear F4 m5 km kpw
                        generalize (setObj y3 pb (.cells (rws encP (M.set i0 (ky, c0, false))).toArray 40 (0, 0))) = y4 at R4 O4 S4 ⊢
                        obtain ⟨iI, hI, hI0, hI1, hI2⟩ := info_parts info_int
                        have tq2 : σ.fl.length ≤ 8 := by omega
                        go_wp2_with (at_builtin; refine G.wpList_push (by rfl) _ _ (by rfl) (by rfl) (by rfl) Try.underlying34 hI hI0 hI1 hI2 (by rfl) (by omega) O4.out S4.out [.int .i64 (i0 : Int)] (by rfl) (by simp [Value.oneCell']) (by omega) (by unfold maxLen; omega) ?_; intro g1 c1 w5 ho5 hf5 hn5; have HO5 := Lib.hid ho5; have HF5 := Lib.hid hf5; clear ho5 hf5 hn5)
                        go_meet
                        exact ⟨⟨σ.fl ++ [i0], fun j => if j = i0 then none else σ.K j⟩, C, M.set i0 (ky, c0, false), Lib.hid (by show World.ownsRow _ _ _ _ _ (σ.fl ++ [i0]).length (itC (σ.fl ++ [i0])); rw [List.length_append, show itC (σ.fl ++ [i0]) = itC σ.fl ++ [.int .i64 (i0 : Int)] by simp [itC]]; exact HO5.out), Lib.hid (R4.out.fr RQ0.out HF5.out (fun k hk => by have := G.own_base O4.out k hk; omega)), Lib.hid (Nat.le_trans S4.out HF5.out.size)⟩
                      · rw [hr, hdel] at CR
                        simp only [remV] at CR
                        have hav := HAV.out
                        rw [hp] at hav
                        simp only [plZ] at hav
                        subst hav
                        clear hr hdel hp
                        go_upto_region 41 with (go_at_call 12; refine CR.out.mono ?_; rintro e wa ⟨rfl, pa, fa, ka⟩; obtain ⟨y1, y2, ey1, ky1, kw1, ey2, by2, ky2⟩ := cbox wa (0, 0, 0, 0); have PA := Lib.hid (And.intro pa (And.intro fa ka)); have BY := Lib.hid by2; have Y2 := Lib.hid ky2; clear pa fa ka by2 ky2)
                        clear ey1 ky1 kw1 ey2 kc5 CR
                        have RPy := Lib.hid ((RZ.out.parts.op RQ0.out PA.out.2.1).keep BY.out)
                        have OYy := Lib.hid (G.own_below (own_op OZ.out RQ0.out PA.out.2.1) BY.out)
                        go_quiet (fail)
                        have BD := Lib.hid (show Below y2.heap.size y2 (y2.drewN nq) from below_draws (Below.refl _ _) nq)
                        obtain ⟨y3, hy3⟩ : ∃ y, y = y2.drewN nq := ⟨_, rfl⟩
                        rw [← hy3] at BD ⊢
                        clear hy3
                        have RP3 := Lib.hid (RPy.out.keep BD.out)
                        have OY3 := Lib.hid (G.own_below OYy.out BD.out)
                        have PA3 := Lib.hid ((PA.out.1.keep BY.out).keep BD.out)
                        have S3 := Lib.hid (Nat.le_trans SZ.out (Nat.le_trans PA.out.2.1.size (Nat.le_trans BY.out.size BD.out.size)))
                        go_wp2
                        go_meet
                        exact ⟨σ, C, M, OY3, Lib.hid (RP3.out.with_ PA3.out RZ.out.tab), S3⟩
                  · as_aux_lemma =>
                      have CR := Lib.hid (plfind_any ky HKY.out wz RZ.out.at_)
                      rw [RQ0.out.qn] at CR
                      cases hp : posN N σ.K ky with
                      | none =>
                        rw [hp] at CR
                        simp only [plP] at CR
                        have hav := HAV.out
                        rw [hp] at hav
                        simp only [plZ] at hav
                        subst hav
                        clear hp
                        go_upto_region 27 with (go_at_call 13; refine CR.out.mono ?_; rintro e y2 ⟨rfl, by2⟩; have BY := Lib.hid by2; clear by2)
                        clear kc5 CR
                        go_quiet (fail)
                        have BD := Lib.hid (show Below wz.heap.size wz (y2.drewN nq) from below_draws BY.out nq)
                        obtain ⟨y3, hy3⟩ : ∃ y, y = y2.drewN nq := ⟨_, rfl⟩
                        rw [← hy3] at BD ⊢
                        clear hy3
                        go_wp2
                        go_meet
                        exact ⟨σ, C, M, Lib.hid (G.own_below OZ.out BD.out), Lib.hid (RZ.out.keep BD.out), Lib.hid (Nat.le_trans SZ.out BD.out.size)⟩
                      | some i0 =>
                        obtain ⟨hi0, hK0⟩ := posN_some hp
                        obtain ⟨c0, hm0, hc0⟩ := RZ.out.tab.at_ hi0 hK0
                        rw [hp] at CR
                        simp only [plP] at CR
                        have hav := HAV.out
                        rw [hp] at hav
                        simp only [plZ] at hav
                        subst hav
                        have u5 : (i0 : Int) < (N : Int) := by omega
                        have HI := Lib.hid (And.intro hi0 (And.intro hm0 hc0))
                        clear hp hi0 hK0 hm0 hc0
                        go_upto_region 27 with (go_at_call 13; refine CR.out.mono ?_; rintro e y2 ⟨rfl, by2⟩; have BY := Lib.hid by2; clear by2)
                        clear kc5 CR
                        have RY := Lib.hid (RZ.out.keep BY.out)
                        have km := RY.out.km.rd
                        have m1 : y2.cell? ⟨pb, i0 * 6 + 1, none⟩ = some (.int .i64 c0.1) := rws_cell encP_len RY.out.kp HI.out.2.1 (j := 1) (by omega)
                        have m2 : y2.cell? ⟨pb, i0 * 6 + 2, none⟩ = some (.int .i64 c0.2.1) := rws_cell encP_len RY.out.kp HI.out.2.1 (j := 2) (by omega)
                        have m3 : y2.cell? ⟨pb, i0 * 6 + 3, none⟩ = some (.int .i64 c0.2.2.1) := rws_cell encP_len RY.out.kp HI.out.2.1 (j := 3) (by omega)
                        have m4 : y2.cell? ⟨pb, i0 * 6 + 4, none⟩ = some (.int .i64 c0.2.2.2) := rws_cell encP_len RY.out.kp HI.out.2.1 (j := 4) (by omega)
                        obtain ⟨q0, q1, q2, q3⟩ := RY.out.at_.cell HI.out.2.2
                        go_quiet (fail)
                        have BD := Lib.hid (show Below wz.heap.size wz (y2.drewN nq) from below_draws BY.out nq)
                        obtain ⟨y3, hy3⟩ : ∃ y, y = y2.drewN nq := ⟨_, rfl⟩
                        rw [← hy3] at BD ⊢
                        clear hy3 m1 m2 m3 m4 q0 q1 q2 q3 km
                        have R3 := Lib.hid (RZ.out.keep BD.out)
                        have O3 := Lib.hid (G.own_below OZ.out BD.out)
                        have S3 := Lib.hid (Nat.le_trans SZ.out BD.out.size)
                        have km := R3.out.km.rd
                        have kc5 := (KZ.out.keep BD.out).rd
                        have m4 : y3.cell? ⟨pb, i0 * 6 + 4, none⟩ = some (.int .i64 c0.2.2.2) := rws_cell encP_len R3.out.kp HI.out.2.1 (j := 4) (by omega)
                        have q3 := (R3.out.at_.cell HI.out.2.2).2.2.2
                        have kpw := R3.out.kp.wr
                        have kcw := R3.out.at_.hc.wr
                        go_upto_region 30 with (fail)
                        go_region
                        obtain ⟨c', hc'⟩ : ∃ c' : Cel, c' = (c0.1, c0.2.1, c0.2.2.1, at') := ⟨_, rfl⟩
                        have ec1 : encC c' = (encC c0).set 3 (.int .i64 at') := by rw [hc']; rfl
                        have ec2 : encP (ky, c', true) = (encP (ky, c0, true)).set 4 (.int .i64 at') := by rw [hc']; rfl
                        rw [rws_store_one encC_len R3.out.at_.hc HI.out.2.2 (j := 3) (a' := c') ec1 (by omega), show i0 * 6 + 1 + 3 = i0 * 6 + 4 by omega]
                        have F5 := Lib.hid (fr_one y3 Q.cb (.cells (rws encC (C.set i0 c')).toArray 38 (0, 0)))
                        have P5 := Lib.hid (R3.out.at_.set (i := i0) (c := c'))
                        have RP5 := Lib.hid (R3.out.parts.fr RQ0.out F5.out (fun k hk => Or.inr (Or.inl (Or.inr hk))))
                        have O5 := Lib.hid (G.own_fr O3.out F5.out (fun g hg e => by have := G.own_base O3.out g hg; have := (RQ0.out.q _ (Or.inl (Or.inr e))).2; have := RQ0.out.pm; omega))
                        have S5 := Lib.hid (Nat.le_trans S3.out F5.out.size)
                        clear F5 km kc5 m4 q3 kpw kcw ec1
                        generalize (setObj y3 Q.cb (.cells (rws encC (C.set i0 c')).toArray 38 (0, 0))) = y5 at P5 RP5 O5 S5 ⊢
                        rw [rws_store_one encP_len RP5.out.kp HI.out.2.1 (j := 4) (a' := (ky, c', true)) ec2 (by omega)]
                        have R4 := Lib.hid (RS.poke RP5.out P5.out RQ0.out (RZ.out.tab.use (c := c') HI.out.2.1))
                        have F4 := Lib.hid (fr_one y5 pb (.cells (rws encP (M.set i0 (ky, c', true))).toArray 40 (0, 0)))
                        have O4 := Lib.hid (G.own_fr O5.out F4.out (fun g hg e => by have := G.own_base O5.out g hg; have := RQ0.out.pm; omega))
                        have S4 := Lib.hid (Nat.le_trans S5.out F4.out.size)
                        clear F4 ec2 hc'
                        generalize (setObj y5 pb (.cells (rws encP (M.set i0 (ky, c', true))).toArray 40 (0, 0))) = y4 at R4 O4 S4 ⊢
                        have B6 := Lib.hid (show Below y4.heap.size y4 y4.drew from below_draws (Below.refl _ _) 1)
                        generalize y4.drew = y6 at B6 ⊢
                        go_wp2
                        go_meet
                        exact ⟨σ, C.set i0 c', M.set i0 (ky, c', true), Lib.hid (G.own_below O4.out B6.out), Lib.hid (R4.out.keep B6.out), Lib.hid (Nat.le_trans S4.out B6.out.size)⟩
                case rest =>
                  as_aux_lemma =>
                    obtain ⟨σ', C', M', HOX, RX, SX⟩ := hcut
                    obtain ⟨Av, cv, rfl, _, _, _⟩ := G.own_at HOX.out
                    obtain ⟨q, hq⟩ : ∃ q, q = σ'.fl.length := ⟨_, rfl⟩
                    have hqn : q ≤ N := by have := RX.out.at_.ix.uni.2.2.2.le; rw [RQ0.out.qn] at this; omega
                    rw [← hq] at HOX ⊢
                    have CL := Lib.hid (fun (wx : World) (hx : Below wc.heap.size wc wx) => show Calls Try.prog 14 #[.pointer (some ⟨Q.p, 0, none⟩)] wx (fun e w' => e = .returned (.int .i64 ((N : Int) - (q : Int))) ∧ Below wc.heap.size wc w' ∧ (∀ x, w'.cell? ⟨nb, x, none⟩ = (#[.int .i64 (N : Int)] : Array Value)[x]?)) from by
                      have := pllen_any wx (RX.out.at_.keep hx)
                      rw [RQ0.out.qn, ← hq, show ((N - q : Nat) : Int) = (N : Int) - (q : Int) by omega] at this
                      exact this.mono (fun e w' hh => ⟨hh.1, below_in hx hh.2, (RX.out.kn.keep (below_in hx hh.2)).rd⟩))
                    have CF := Lib.hid (fun (wx : World) (hx : Below wc.heap.size wc wx) => show Calls Try.prog 15 #[.pointer (some ⟨Q.p, 0, none⟩)] wx (fun e w' => e = .returned (.bool ((q : Int) == 0)) ∧ Below wc.heap.size wc w' ∧ (∀ x, w'.cell? ⟨nb, x, none⟩ = (#[.int .i64 (N : Int)] : Array Value)[x]?)) from by
                      have := plfull_any wx (RX.out.at_.keep hx)
                      rw [RQ0.out.qn, ← hq, show decide (((N - q : Nat) : Int) = (N : Int)) = ((q : Int) == 0) by
                        by_cases h : q = 0
                        · subst h; simp
                        · rw [decide_eq_false (by omega)]; symm; simpa using h] at this
                      exact this.mono (fun e w' hh => ⟨hh.1, below_in hx hh.2, (RX.out.kn.keep (below_in hx hh.2)).rd⟩))
                    have eq1 : IntKind.i64.wrap ((N : Int) - (q : Int)) = (N : Int) - (q : Int) := by rw [IntKind.wrap_i64]; omega
                    have tq : (q : Int) ≤ 8 := by omega
                    have HQ2 := Lib.hid hq
                    obtain ⟨bq, hbq⟩ : ∃ bq, bq = ((q : Int) == 0) := ⟨_, rfl⟩
                    rw [← hbq] at CF
                    have ebq : ((q : Int) == 0) = bq := hbq.symm
                    have ebb : (bq != bq) = false := by cases bq <;> rfl
                    clear hq hqn hbq kc5
                    go_upto_region 46 with (fail)
                    have y2 : Below wc.heap.size wc wc.drew := below_draws (Below.refl _ _) 1
                    have k2 : ∀ x, wc.drew.cell? ⟨nb, x, none⟩ = (#[.int .i64 (N : Int)] : Array Value)[x]? := RX.out.kn.rd
                    go_region_held3 (fun w' => (∀ x, w'.cell? ⟨nb, x, none⟩ = (#[.int .i64 (N : Int)] : Array Value)[x]?) ∧ Below wc.heap.size wc w') (refine ⟨?_, ?_⟩ <;> assumption)
                      (first
                        | (go_at_call 14; ((with_reducible refine (CL.out _ (by assumption)).mono ?_); rintro e w2 ⟨rfl, z2, z1⟩; have Z2 := Lib.hid z2))
                        | (go_at_call 15; ((with_reducible refine (CF.out _ (by assumption)).mono ?_); rintro e w3 ⟨rfl, z4, z3⟩; have Z4 := Lib.hid z4)))
                    clear y2 k2 z1 z2 z3 z4 CL CF
                    go_wp2
                    go_roundg (n - (j + 1))
                    case measure => have := HK2.out; have := HJN.out; omega
                    case rel => exact ⟨j + 1, σ', C', M', HJN.out, Lib.hid rfl, by go_num, Lib.hid (by rw [← HQ2.out]; exact G.own_below HOX.out Z4.out), Lib.hid (RX.out.keep Z4.out), Lib.hid (Nat.le_trans SX.out Z4.out.size)⟩
        · --@<- fin
          have hje : j = n := by omega
          subst hje
          clear hj HK2 HSZ HSZ2 HOW HOW2
          go_upto_region 49 with (fail)
          obtain ⟨x7, hx7, k7, l7, s7⟩ := box_new wr #[.int .i64 0] 3
          have k7r := k7.rd
          have k7w := k7.wr
          go_upto_region 50 with (fail)
          have es : x7.setCell ⟨wr.heap.size, 0, none⟩ (.int .i64 0) = setObj x7 wr.heap.size (.cells #[.int .i64 0] 3 (0, 0)) := by rw [setCell_obj k7]; rfl
          rw [es]
          have k8 : Blk (setObj x7 wr.heap.size (.cells #[.int .i64 0] 3 (0, 0))) wr.heap.size 3 #[.int .i64 ((0 : Nat) : Int)] := setObj_at (lt_of_block k7) _
          have s8 := RI2.out.keep (l7.trans ((fr_one x7 wr.heap.size (.cells #[.int .i64 0] 3 (0, 0))).below l7.size (fun k hk => by omega)))
          obtain ⟨ib, hib⟩ : ∃ x, x = wr.heap.size := ⟨_, rfl⟩
          have HIB := Lib.hid (show mb < ib from by rw [hib]; exact lt_of_block RI2.out.km)
          rw [← hib] at k8 s8 ⊢
          generalize (setObj x7 ib (.cells #[.int .i64 0] 3 (0, 0))) = w8 at k8 s8 ⊢
          have S8 := Lib.hid s8
          have K8 := Lib.hid k8
          clear k7 k8 s8 es l7 s7 hx7 k7r k7w hib
          go_wp2
          obtain ⟨LL, hLL⟩ : ∃ LL, LL = plL σ.K C N := ⟨_, rfl⟩
          have hit := plall_any Q σ C w8 S8.out.at_
          rw [RQ0.out.qn, ← hLL] at hit
          have HLL := Lib.hid hLL
          have NN := Lib.hid HNN.out
          refine (wpIn_wide (n := 0)).1 (rf_law (gf := 16) (fb := #[.pointer (some ⟨Q.p, 0, none⟩)]) rfl (enters_of Try.func16 (by kernel_rfl) rfl) hit (Below.refl _ _) (fun _ => rfl) KeepB.trans (fun _ _ h => KeepB.turn h)
            (fun pre W' => RS w W' Q nb rb pb mb N σ C M ∧ (∃ ix : Nat, Blk W' ib 3 #[.int .i64 (ix : Int)] ∧ ix ≤ N ∧ plL σ.K C ix = pre) ∧ w8.heap.size ≤ W'.heap.size)
            (fun _ _ _ => False) ?hI ?hIx ?h0 ?round ?done ?stop)
          case hI =>
            rintro s X Y ⟨h1, ⟨ix, h2, h3, h4⟩, h5⟩ hT
            exact ⟨h1.turn hT S8.out.bl.size, ⟨ix, h2.turn hT, h3, h4⟩, Nat.le_trans h5 hT.size⟩
          case hIx => exact fun _ _ _ _ h _ => h
          case h0 => exact ⟨S8.out, ⟨0, K8.out, by omega, rfl⟩, Nat.le_refl _⟩
          case round =>
            as_aux_lemma =>
              rintro l pre ⟨s, c⟩ X K hl hpx ⟨hS, ⟨ix, h7, hix, hpre⟩, hsz⟩ hK
              obtain ⟨hpl, hpa⟩ := next_at hpx
              obtain ⟨x1, x2, e1, kr, kw, e2, bl2, kc2⟩ := cbox X c
              have HW := Lib.hid (And.intro e2 (And.intro bl2 kc2))
              have HS := Lib.hid (And.intro (hS.keep bl2) (And.intro (h7.keep bl2) (show w8.heap.size ≤ x2.heap.size by have := bl2.size; omega)))
              have HK2 := Lib.hid hK
              have HIX := Lib.hid (lt_of_block h7)
              have HP := Lib.hid (And.intro hpl (And.intro hpa (And.intro hix hpre)))
              clear e2 bl2 kc2 hS h7 hsz hK hpl hpa hpx hl hit hix hpre hLL
              gi_wp2
              rw [HW.out.1]
              refine HK2.out _ _ (keepsFrom_below HW.out.2.1) (KeepB.below HW.out.2.1) ?_
              clear kr kw e1
              intro W2 hT
              have T2 := Lib.hid (And.intro (HS.out.1.turn hT S8.out.bl.size) (And.intro (HS.out.2.1.turn hT) (And.intro (HW.out.2.2.turn hT) (show w8.heap.size ≤ W2.heap.size by have := hT.size; have := HS.out.2.2; omega))))
              clear hT HK2
              gi_wp2
              gi_loopw [] (fun W3 => ∃ y : Nat, y ≤ N ∧ Hid (plL σ.K C y = pre) ∧ Hid (Blk W3 ib 3 #[.int .i64 (y : Int)]) ∧ Hid (RS w W3 Q nb rb pb mb N σ C M) ∧ Hid (Blk W3 X.heap.size 38 #[.int .i64 c.1, .int .i64 c.2.1, .int .i64 c.2.2.1, .int .i64 c.2.2.2]) ∧ Hid (w8.heap.size ≤ W3.heap.size) ∧ Hid (Fr (fun k => k = ib) W2 W3)) (fun W3 => N - boxN W3 ib)
              case atStart => exact ⟨ix, HP.out.2.2.1, Lib.hid HP.out.2.2.2, Lib.hid T2.out.2.1, Lib.hid T2.out.1, Lib.hid T2.out.2.2.1, Lib.hid T2.out.2.2.2, Lib.hid (Fr.refl _ _)⟩
              case round =>
                obtain ⟨y, hy, HY1, HY2, HY3, HY4, HY5, HY6⟩ := hrel
                have ki := HY2.out.rd
                have kn := HY3.out.kn.rd
                have km := HY3.out.km.rd
                by_cases hyn : y < N
                · obtain ⟨⟨k, c', b'⟩, hm⟩ : ∃ a, M[y]? = some a := ⟨_, List.getElem?_eq_getElem (by rw [HY3.out.tab.len]; exact hyn)⟩
                  have m5 : wr.cell? ⟨pb, y * 6 + 5, none⟩ = some (.bool b') := rws_cell encP_len HY3.out.kp hm (j := 5) (by omega)
                  have t1 : (y : Int) < (N : Int) := by omega
                  have t4 : IntKind.i64.wrap ((y : Int) + 1) = (y : Int) + 1 := by rw [IntKind.wrap_i64]; have := NN.out.2; omega
                  have t5 : (N : Int) ≤ 8 := by have := NN.out.2; omega
                  have HM := Lib.hid (And.intro hm (And.intro hyn t4))
                  clear hm t4 hyn
                  cases b' with
                  | false =>
                    have kiw := HY2.out.wr
                    have t4 := HM.out.2.2
                    gi_wp2
                    rw [setCell_obj HY2.out, show (#[Value.int .i64 (y : Int)] : Array Value).setIfInBounds 0 (.int .i64 ((y : Int) + 1)) = #[.int .i64 ((y + 1 : Nat) : Int)] from rfl]
                    have f := fr_one wr ib (.cells #[.int .i64 ((y + 1 : Nat) : Int)] 3 (0, 0))
                    have kz : Blk (setObj wr ib (.cells #[.int .i64 ((y + 1 : Nat) : Int)] 3 (0, 0))) ib 3 #[.int .i64 ((y + 1 : Nat) : Int)] := setObj_at (lt_of_block HY2.out) _
                    go_roundw
                    case measure =>
                      rw [boxN_of kz, boxN_of HY2.out]
                      have := HM.out.2.1; omega
                    case rel =>
                      exact ⟨y + 1, HM.out.2.1, Lib.hid ((plL_no (HY3.out.tab.no y k c' HM.out.1)).trans HY1.out), Lib.hid kz, Lib.hid (HY3.out.fr RQ0.out f (fun k hk => by have := HIB.out; omega)), Lib.hid (HY4.out.fr f (fun e => by have := HIX.out; omega)), Lib.hid (Nat.le_trans HY5.out f.size), Lib.hid (HY6.out.trans f)⟩
                  | true =>
                    have hyes := HY3.out.tab.yes y k c' HM.out.1
                    have hpe := plL_yes hyes.1 hyes.2
                    have hsc : (k, c') = (s, c) := by
                      rw [HY1.out] at hpe
                      have h1 : pre ++ [(k, c')] <+: LL := by rw [← hpe, HLL.out]; exact plL_prefix HM.out.2.1
                      have h2 := (next_at h1).2
                      rw [HP.out.2.1] at h2
                      exact (Option.some.inj h2).symm
                    rw [HY1.out] at hpe
                    rw [hsc] at hpe
                    obtain ⟨rfl, rfl⟩ := Prod.mk.inj hsc
                    have HPE := Lib.hid hpe
                    have SB := Lib.hid (fun (wx : World) (hb : Below wr.heap.size wr wx) => show (∀ x, wx.cell? ⟨ib, x, none⟩ = (#[.int .i64 (y : Int)] : Array Value)[x]?) ∧ (∀ x, wx.cell? ⟨nb, x, none⟩ = (#[.int .i64 (N : Int)] : Array Value)[x]?) ∧ (∀ x, wx.cell? ⟨mb, x, none⟩ = (#[.slice (some ⟨pb, 0, none⟩) N N] : Array Value)[x]?) ∧ (∀ x, wx.cell? ⟨X.heap.size, x, none⟩ = (#[.int .i64 c'.1, .int .i64 c'.2.1, .int .i64 c'.2.2.1, .int .i64 c'.2.2.2] : Array Value)[x]?) ∧ wx.cell? ⟨pb, y * 6, none⟩ = some (.string k) ∧ wx.cell? ⟨pb, y * 6 + 1, none⟩ = some (.int .i64 c'.1) ∧ wx.cell? ⟨pb, y * 6 + 2, none⟩ = some (.int .i64 c'.2.1) ∧ wx.cell? ⟨pb, y * 6 + 3, none⟩ = some (.int .i64 c'.2.2.1) ∧ wx.cell? ⟨pb, y * 6 + 4, none⟩ = some (.int .i64 c'.2.2.2) from
                      ⟨(HY2.out.keep hb).rd, (HY3.out.kn.keep hb).rd, (HY3.out.km.keep hb).rd, (HY4.out.keep hb).rd, rws_cell encP_len (HY3.out.kp.keep hb) HM.out.1 (j := 0) (by omega), rws_cell encP_len (HY3.out.kp.keep hb) HM.out.1 (j := 1) (by omega), rws_cell encP_len (HY3.out.kp.keep hb) HM.out.1 (j := 2) (by omega), rws_cell encP_len (HY3.out.kp.keep hb) HM.out.1 (j := 3) (by omega), rws_cell encP_len (HY3.out.kp.keep hb) HM.out.1 (j := 4) (by omega)⟩)
                    have D2 := Lib.hid (show Below wr.heap.size wr wr.drew from below_draws (Below.refl _ _) 1)
                    have t6 : ((y : Int) == (N : Int)) = false := by simp; omega
                    clear hyes hpe
                    gi_wp2
                    refine round_region_held (S := fun wx => (∀ x, wx.cell? ⟨ib, x, none⟩ = (#[.int .i64 (y : Int)] : Array Value)[x]?) ∧ (∀ x, wx.cell? ⟨nb, x, none⟩ = (#[.int .i64 (N : Int)] : Array Value)[x]?) ∧ (∀ x, wx.cell? ⟨mb, x, none⟩ = (#[.slice (some ⟨pb, 0, none⟩) N N] : Array Value)[x]?) ∧ (∀ x, wx.cell? ⟨X.heap.size, x, none⟩ = (#[.int .i64 c'.1, .int .i64 c'.2.1, .int .i64 c'.2.2.1, .int .i64 c'.2.2.2] : Array Value)[x]?) ∧ wx.cell? ⟨pb, y * 6, none⟩ = some (.string k) ∧ wx.cell? ⟨pb, y * 6 + 1, none⟩ = some (.int .i64 c'.1) ∧ wx.cell? ⟨pb, y * 6 + 2, none⟩ = some (.int .i64 c'.2.1) ∧ wx.cell? ⟨pb, y * 6 + 3, none⟩ = some (.int .i64 c'.2.2.1) ∧ wx.cell? ⟨pb, y * 6 + 4, none⟩ = some (.int .i64 c'.2.2.2)) (by kernel_rfl) (by kernel_rfl) (by rintro ⟨_, _, h⟩; exact h) (SB.out _ D2.out) (fun hHeld => ?_)
                    refine wpAnyH_take (i := 0) (oi := ?_) (v := ?_) ?_ ?_ ?_ ?_ ?_ ?_ ?_ ?_
                    rotate_left 2
                    · simp only [List.getElem?_toArray, List.getElem?_cons_succ, List.getElem?_cons_zero]; rfl
                    · kernel_rfl
                    · kernel_rfl
                    · kernel_rfl
                    · exact fun _ _ _ h => h
                    · refine Or.inl ⟨by rfl, ?_⟩
                      intro w' hSw
                      (try dsimp only at hSw)
                      go_simp
                      all_goals (with_reducible rfl)
                    · assumption
                    try simp only [Act.put, List.setIfInBounds_toArray, List.set_cons_zero, List.set_cons_succ]
                    refine wpAnyH_take (i := 1) (oi := ?_) (v := ?_) ?_ ?_ ?_ ?_ ?_ ?_ ?_ ?_
                    rotate_left 2
                    · simp only [List.getElem?_toArray, List.getElem?_cons_succ, List.getElem?_cons_zero]; rfl
                    · kernel_rfl
                    · kernel_rfl
                    · kernel_rfl
                    · exact fun _ _ _ h => h
                    · refine Or.inl ⟨by rfl, ?_⟩
                      intro w' hSw
                      (try dsimp only at hSw)
                      go_simp
                      all_goals (with_reducible rfl)
                    · assumption
                    try simp only [Act.put, List.setIfInBounds_toArray, List.set_cons_zero, List.set_cons_succ]
                    refine wpAnyH_take (i := 2) (oi := ?_) (v := ?_) ?_ ?_ ?_ ?_ ?_ ?_ ?_ ?_
                    rotate_left 2
                    · simp only [List.getElem?_toArray, List.getElem?_cons_succ, List.getElem?_cons_zero]; rfl
                    · kernel_rfl
                    · kernel_rfl
                    · kernel_rfl
                    · exact fun _ _ _ h => h
                    · refine Or.inl ⟨by rfl, ?_⟩
                      intro w' hSw
                      (try dsimp only at hSw)
                      go_simp
                      all_goals (with_reducible rfl)
                    · assumption
                    try simp only [Act.put, List.setIfInBounds_toArray, List.set_cons_zero, List.set_cons_succ]
                    refine wpAnyH_take (i := 3) (oi := ?_) (v := ?_) ?_ ?_ ?_ ?_ ?_ ?_ ?_ ?_
                    rotate_left 2
                    · simp only [List.getElem?_toArray, List.getElem?_cons_succ, List.getElem?_cons_zero]; rfl
                    · kernel_rfl
                    · kernel_rfl
                    · kernel_rfl
                    · exact fun _ _ _ h => h
                    · refine Or.inl ⟨by rfl, ?_⟩
                      intro w' hSw
                      (try dsimp only at hSw)
                      go_simp
                      all_goals (with_reducible rfl)
                    · assumption
                    try simp only [Act.put, List.setIfInBounds_toArray, List.set_cons_zero, List.set_cons_succ]
                    refine wpAnyH_take (i := 4) (oi := ?_) (v := ?_) ?_ ?_ ?_ ?_ ?_ ?_ ?_ ?_
                    rotate_left 2
                    · simp only [List.getElem?_toArray, List.getElem?_cons_succ, List.getElem?_cons_zero]; rfl
                    · kernel_rfl
                    · kernel_rfl
                    · kernel_rfl
                    · exact fun _ _ _ h => h
                    · refine Or.inl ⟨by rfl, ?_⟩
                      intro w' hSw
                      (try dsimp only at hSw)
                      go_simp
                      all_goals (with_reducible rfl)
                    · assumption
                    try simp only [Act.put, List.setIfInBounds_toArray, List.set_cons_zero, List.set_cons_succ]
                    refine wpAnyH_take (i := 5) (oi := ?_) (v := ?_) ?_ ?_ ?_ ?_ ?_ ?_ ?_ ?_
                    rotate_left 2
                    · simp only [List.getElem?_toArray, List.getElem?_cons_succ, List.getElem?_cons_zero]; rfl
                    · kernel_rfl
                    · kernel_rfl
                    · kernel_rfl
                    · exact fun _ _ _ h => h
                    · refine Or.inl ⟨by rfl, ?_⟩
                      intro w' hSw
                      (try dsimp only at hSw)
                      go_simp
                      all_goals (with_reducible rfl)
                    · assumption
                    try simp only [Act.put, List.setIfInBounds_toArray, List.set_cons_zero, List.set_cons_succ]
                    refine wpAnyH_take (i := 6) (oi := ?_) (v := ?_) ?_ ?_ ?_ ?_ ?_ ?_ ?_ ?_
                    rotate_left 2
                    · simp only [List.getElem?_toArray, List.getElem?_cons_succ, List.getElem?_cons_zero]; rfl
                    · kernel_rfl
                    · kernel_rfl
                    · kernel_rfl
                    · exact fun _ _ _ h => h
                    · refine Or.inl ⟨by rfl, ?_⟩
                      intro w' hSw
                      (try dsimp only at hSw)
                      go_simp
                      all_goals (with_reducible rfl)
                    · assumption
                    try simp only [Act.put, List.setIfInBounds_toArray, List.set_cons_zero, List.set_cons_succ]
                    refine wpAnyH_take (i := 7) (oi := ?_) (v := ?_) ?_ ?_ ?_ ?_ ?_ ?_ ?_ ?_
                    rotate_left 2
                    · simp only [List.getElem?_toArray, List.getElem?_cons_succ, List.getElem?_cons_zero]; rfl
                    · kernel_rfl
                    · kernel_rfl
                    · kernel_rfl
                    · exact fun _ _ _ h => h
                    · refine Or.inl ⟨by rfl, ?_⟩
                      intro w' hSw
                      (try dsimp only at hSw)
                      go_simp
                      all_goals (with_reducible rfl)
                    · assumption
                    try simp only [Act.put, List.setIfInBounds_toArray, List.set_cons_zero, List.set_cons_succ]
                    refine wpAnyH_take (i := 8) (oi := ?_) (v := ?_) ?_ ?_ ?_ ?_ ?_ ?_ ?_ ?_
                    rotate_left 2
                    · simp only [List.getElem?_toArray, List.getElem?_cons_succ, List.getElem?_cons_zero]; rfl
                    · kernel_rfl
                    · kernel_rfl
                    · kernel_rfl
                    · exact fun _ _ _ h => h
                    · refine Or.inl ⟨by rfl, ?_⟩
                      intro w' hSw
                      (try dsimp only at hSw)
                      go_simp
                      all_goals (with_reducible rfl)
                    · assumption
                    try simp only [Act.put, List.setIfInBounds_toArray, List.set_cons_zero, List.set_cons_succ]
                    refine wpAnyH_take (i := 9) (oi := ?_) (v := ?_) ?_ ?_ ?_ ?_ ?_ ?_ ?_ ?_
                    rotate_left 2
                    · simp only [List.getElem?_toArray, List.getElem?_cons_succ, List.getElem?_cons_zero]; rfl
                    · kernel_rfl
                    · kernel_rfl
                    · kernel_rfl
                    · exact fun _ _ _ h => h
                    · refine Or.inl ⟨by rfl, ?_⟩
                      intro w' hSw
                      (try dsimp only at hSw)
                      go_simp
                      all_goals (with_reducible rfl)
                    · assumption
                    try simp only [Act.put, List.setIfInBounds_toArray, List.set_cons_zero, List.set_cons_succ]
                    refine wpAnyH_take (i := 10) (oi := ?_) (v := ?_) ?_ ?_ ?_ ?_ ?_ ?_ ?_ ?_
                    rotate_left 2
                    · simp only [List.getElem?_toArray, List.getElem?_cons_succ, List.getElem?_cons_zero]; rfl
                    · kernel_rfl
                    · kernel_rfl
                    · kernel_rfl
                    · exact fun _ _ _ h => h
                    · refine Or.inl ⟨by rfl, ?_⟩
                      intro w' hSw
                      (try dsimp only at hSw)
                      go_simp
                      all_goals (with_reducible rfl)
                    · assumption
                    try simp only [Act.put, List.setIfInBounds_toArray, List.set_cons_zero, List.set_cons_succ]
                    refine wpAnyH_take (i := 11) (oi := ?_) (v := ?_) ?_ ?_ ?_ ?_ ?_ ?_ ?_ ?_
                    rotate_left 2
                    · simp only [List.getElem?_toArray, List.getElem?_cons_succ, List.getElem?_cons_zero]; rfl
                    · kernel_rfl
                    · kernel_rfl
                    · kernel_rfl
                    · exact fun _ _ _ h => h
                    · refine Or.inl ⟨by rfl, ?_⟩
                      intro w' hSw
                      (try dsimp only at hSw)
                      go_simp
                      all_goals (with_reducible rfl)
                    · assumption
                    try simp only [Act.put, List.setIfInBounds_toArray, List.set_cons_zero, List.set_cons_succ]
                    refine wpAnyH_take (i := 12) (oi := ?_) (v := ?_) ?_ ?_ ?_ ?_ ?_ ?_ ?_ ?_
                    rotate_left 2
                    · simp only [List.getElem?_toArray, List.getElem?_cons_succ, List.getElem?_cons_zero]; rfl
                    · kernel_rfl
                    · kernel_rfl
                    · kernel_rfl
                    · exact fun _ _ _ h => h
                    · refine Or.inl ⟨by rfl, ?_⟩
                      intro w' hSw
                      (try dsimp only at hSw)
                      go_simp
                      all_goals (with_reducible rfl)
                    · assumption
                    try simp only [Act.put, List.setIfInBounds_toArray, List.set_cons_zero, List.set_cons_succ]
                    refine wpAnyH_take (i := 13) (oi := ?_) (v := ?_) ?_ ?_ ?_ ?_ ?_ ?_ ?_ ?_
                    rotate_left 2
                    · simp only [List.getElem?_toArray, List.getElem?_cons_succ, List.getElem?_cons_zero]; rfl
                    · kernel_rfl
                    · kernel_rfl
                    · kernel_rfl
                    · exact fun _ _ _ h => h
                    · refine Or.inl ⟨by rfl, ?_⟩
                      intro w' hSw
                      (try dsimp only at hSw)
                      go_simp
                      all_goals (with_reducible rfl)
                    · assumption
                    try simp only [Act.put, List.setIfInBounds_toArray, List.set_cons_zero, List.set_cons_succ]
                    refine wpAnyH_take (i := 14) (oi := ?_) (v := ?_) ?_ ?_ ?_ ?_ ?_ ?_ ?_ ?_
                    rotate_left 2
                    · simp only [List.getElem?_toArray, List.getElem?_cons_succ, List.getElem?_cons_zero]; rfl
                    · kernel_rfl
                    · kernel_rfl
                    · kernel_rfl
                    · exact fun _ _ _ h => h
                    · refine Or.inl ⟨by rfl, ?_⟩
                      intro w' hSw
                      (try dsimp only at hSw)
                      go_simp
                      all_goals (with_reducible rfl)
                    · assumption
                    try simp only [Act.put, List.setIfInBounds_toArray, List.set_cons_zero, List.set_cons_succ]
                    refine wpAnyH_take (i := 15) (oi := ?_) (v := ?_) ?_ ?_ ?_ ?_ ?_ ?_ ?_ ?_
                    rotate_left 2
                    · simp only [List.getElem?_toArray, List.getElem?_cons_succ, List.getElem?_cons_zero]; rfl
                    · kernel_rfl
                    · kernel_rfl
                    · kernel_rfl
                    · exact fun _ _ _ h => h
                    · refine Or.inl ⟨by rfl, ?_⟩
                      intro w' hSw
                      (try dsimp only at hSw)
                      go_simp
                      all_goals (with_reducible rfl)
                    · assumption
                    try simp only [Act.put, List.setIfInBounds_toArray, List.set_cons_zero, List.set_cons_succ]
                    refine wpAnyH_take (i := 16) (oi := ?_) (v := ?_) ?_ ?_ ?_ ?_ ?_ ?_ ?_ ?_
                    rotate_left 2
                    · simp only [List.getElem?_toArray, List.getElem?_cons_succ, List.getElem?_cons_zero]; rfl
                    · kernel_rfl
                    · kernel_rfl
                    · kernel_rfl
                    · exact fun _ _ _ h => h
                    · refine Or.inl ⟨by rfl, ?_⟩
                      intro w' hSw
                      (try dsimp only at hSw)
                      go_simp
                      all_goals (with_reducible rfl)
                    · assumption
                    try simp only [Act.put, List.setIfInBounds_toArray, List.set_cons_zero, List.set_cons_succ]
                    refine wpAnyH_take (i := 17) (oi := ?_) (v := ?_) ?_ ?_ ?_ ?_ ?_ ?_ ?_ ?_
                    rotate_left 2
                    · simp only [List.getElem?_toArray, List.getElem?_cons_succ, List.getElem?_cons_zero]; rfl
                    · kernel_rfl
                    · kernel_rfl
                    · kernel_rfl
                    · exact fun _ _ _ h => h
                    · refine Or.inl ⟨by rfl, ?_⟩
                      intro w' hSw
                      (try dsimp only at hSw)
                      go_simp
                      all_goals (with_reducible rfl)
                    · assumption
                    try simp only [Act.put, List.setIfInBounds_toArray, List.set_cons_zero, List.set_cons_succ]
                    refine wpAnyH_take (i := 18) (oi := ?_) (v := ?_) ?_ ?_ ?_ ?_ ?_ ?_ ?_ ?_
                    rotate_left 2
                    · simp only [List.getElem?_toArray, List.getElem?_cons_succ, List.getElem?_cons_zero]; rfl
                    · kernel_rfl
                    · kernel_rfl
                    · kernel_rfl
                    · exact fun _ _ _ h => h
                    · refine Or.inl ⟨by rfl, ?_⟩
                      intro w' hSw
                      (try dsimp only at hSw)
                      go_simp
                      all_goals (with_reducible rfl)
                    · assumption
                    try simp only [Act.put, List.setIfInBounds_toArray, List.set_cons_zero, List.set_cons_succ]
                    refine wpAnyH_take (i := 19) (oi := ?_) (v := ?_) ?_ ?_ ?_ ?_ ?_ ?_ ?_ ?_
                    rotate_left 2
                    · simp only [List.getElem?_toArray, List.getElem?_cons_succ, List.getElem?_cons_zero]; rfl
                    · kernel_rfl
                    · kernel_rfl
                    · kernel_rfl
                    · exact fun _ _ _ h => h
                    · refine Or.inl ⟨by rfl, ?_⟩
                      intro w' hSw
                      (try dsimp only at hSw)
                      go_simp
                      all_goals (with_reducible rfl)
                    · assumption
                    try simp only [Act.put, List.setIfInBounds_toArray, List.set_cons_zero, List.set_cons_succ]
                    refine wpAnyH_take (i := 20) (oi := ?_) (v := ?_) ?_ ?_ ?_ ?_ ?_ ?_ ?_ ?_
                    rotate_left 2
                    · simp only [List.getElem?_toArray, List.getElem?_cons_succ, List.getElem?_cons_zero]; rfl
                    · kernel_rfl
                    · kernel_rfl
                    · kernel_rfl
                    · exact fun _ _ _ h => h
                    · refine Or.inl ⟨by rfl, ?_⟩
                      intro w' hSw
                      (try dsimp only at hSw)
                      go_simp
                      all_goals (with_reducible rfl)
                    · assumption
                    try simp only [Act.put, List.setIfInBounds_toArray, List.set_cons_zero, List.set_cons_succ]
                    refine wpAnyH_done (by kernel_rfl) ?_ _
                    clear hHeld
                    have Z7 := Lib.hid (HY2.out.keep D2.out)
                    have z7 := Z7.out.rd
                    have z7w := Z7.out.wr
                    have t4 := HM.out.2.2
                    clear ki kn km m5
                    have R7 := Lib.hid (HY3.out.keep D2.out)
                    have F7 := Lib.hid (HY6.out.trans (Fr.of_below D2.out : Fr (fun k => k = ib) wr wr.drew))
                    have S7 := Lib.hid (Nat.le_trans HY5.out D2.out.size)
                    generalize wr.drew = w7 at Z7 z7 z7w R7 F7 S7 ⊢
                    gi_wp2
                    rw [setCell_obj Z7.out, show (#[Value.int .i64 (y : Int)] : Array Value).setIfInBounds 0 (.int .i64 ((y : Int) + 1)) = #[.int .i64 ((y + 1 : Nat) : Int)] from rfl]
                    have f := fr_one w7 ib (.cells #[.int .i64 ((y + 1 : Nat) : Int)] 3 (0, 0))
                    have kz : Blk (setObj w7 ib (.cells #[.int .i64 ((y + 1 : Nat) : Int)] 3 (0, 0))) ib 3 #[.int .i64 ((y + 1 : Nat) : Int)] := setObj_at (lt_of_block Z7.out) _
                    refine ⟨keepsFrom_fr (F7.out.trans f) (fun k o hk hB => by have := lt_of_block K8.out; omega), KeepB.fr (F7.out.trans f) (fun k hk e => by have := (RQ0.out.q k hk).2; have := RQ0.out.pm; have := HIB.out; omega), R7.out.fr RQ0.out f (fun k hk => by have := HIB.out; omega), ⟨y + 1, kz, HM.out.2.1, HPE.out⟩, Nat.le_trans S7.out f.size⟩
                · exfalso
                  have hye : y = N := by omega
                  have h1 := HY1.out
                  rw [hye] at h1
                  have h2 := HP.out.1
                  rw [HLL.out, h1] at h2
                  exact absurd h2 (Nat.lt_irrefl _)
          case done =>
            as_aux_lemma =>
              rintro D W1 hD ⟨hS, ⟨ix, h7, hix, hpre⟩, hsz⟩ hd
              have HX := Lib.hid (And.intro hS (And.intro h7 (And.intro hd (And.intro hpre hix))))
              have HD := Lib.hid (show w8.heap.size ≤ D from hD)
              clear hS h7 hsz hD hd hit hLL hpre hix
              go_wp2
              go_loopg [] (N - ix) (fun kk wr => ∃ y : Nat, y ≤ N ∧ Hid (kk = N - y) ∧ Hid (plL σ.K C y = LL) ∧ Hid (Blk wr ib 3 #[.int .i64 (y : Int)]) ∧ Hid (RS w wr Q nb rb pb mb N σ C M) ∧ Hid (wr.heap[D]? = some (.deferred (some []))))
              case atStart => exact ⟨ix, HX.out.2.2.2.2, Lib.hid rfl, Lib.hid HX.out.2.2.2.1, Lib.hid HX.out.2.1, Lib.hid HX.out.1, Lib.hid HX.out.2.2.1⟩
              case round =>
                obtain ⟨y, hy, HKK, HY1, HY2, HY3, HY4⟩ := hrel
                have ki := HY2.out.rd
                have kn := HY3.out.kn.rd
                have km := HY3.out.km.rd
                by_cases hyn : y < N
                · obtain ⟨⟨k, c', b'⟩, hm⟩ : ∃ a, M[y]? = some a := ⟨_, List.getElem?_eq_getElem (by rw [HY3.out.tab.len]; exact hyn)⟩
                  have m5 : wr.cell? ⟨pb, y * 6 + 5, none⟩ = some (.bool b') := rws_cell encP_len HY3.out.kp hm (j := 5) (by omega)
                  have t1 : (y : Int) < (N : Int) := by omega
                  have t4 : IntKind.i64.wrap ((y : Int) + 1) = (y : Int) + 1 := by rw [IntKind.wrap_i64]; have := NN.out.2; omega
                  have t5 : (N : Int) ≤ 8 := by have := NN.out.2; omega
                  have HM := Lib.hid (And.intro hm (And.intro hyn t4))
                  clear hm t4 hyn
                  cases b' with
                  | false =>
                    have kiw := HY2.out.wr
                    have t4 := HM.out.2.2
                    go_wp2
                    rw [setCell_obj HY2.out, show (#[Value.int .i64 (y : Int)] : Array Value).setIfInBounds 0 (.int .i64 ((y : Int) + 1)) = #[.int .i64 ((y + 1 : Nat) : Int)] from rfl]
                    have f := fr_one wr ib (.cells #[.int .i64 ((y + 1 : Nat) : Int)] 3 (0, 0))
                    have kz : Blk (setObj wr ib (.cells #[.int .i64 ((y + 1 : Nat) : Int)] 3 (0, 0))) ib 3 #[.int .i64 ((y + 1 : Nat) : Int)] := setObj_at (lt_of_block HY2.out) _
                    go_roundg (N - (y + 1))
                    case measure => have := HM.out.2.1; have := HKK.out; omega
                    case rel =>
                      exact ⟨y + 1, HM.out.2.1, Lib.hid rfl, Lib.hid ((plL_no (HY3.out.tab.no y k c' HM.out.1)).trans HY1.out), Lib.hid kz, Lib.hid (HY3.out.fr RQ0.out f (fun k hk => by have := HIB.out; omega)), Lib.hid ((f.block D (Array.getElem?_eq_some_iff.1 HY4.out).1 (fun e => by have := lt_of_block K8.out; have := HD.out; omega)).trans HY4.out)⟩
                  | true =>
                    exfalso
                    have hyes := HY3.out.tab.yes y k c' HM.out.1
                    have hpe := plL_yes hyes.1 hyes.2
                    rw [HY1.out] at hpe
                    have h1 : LL ++ [(k, c')] <+: LL := by
                      have := plL_prefix (K := σ.K) (C := C) (show y + 1 ≤ N from HM.out.2.1)
                      rw [hpe, ← HLL.out] at this
                      exact this
                    have := h1.length_le
                    rw [List.length_append, List.length_singleton] at this
                    omega
                · have hye : y = N := by omega
                  rw [hye] at ki HY2
                  have t1 : ¬ ((N : Int) < (N : Int)) := by omega
                  have hund : undef = Value.tuple #[] := rfl
                  have kr := HY3.out.kr.rd
                  have krw := HY3.out.kr.wr
                  have nrb : rb ≠ ib := by have := HIB.out; have := RQ0.out.rp; have := RQ0.out.pm; omega
                  have HNR := Lib.hid nrb
                  clear hyn hye
                  go_wp2
                  exact bodyM_law rfl Try.underlying4 rfl rfl rfl HY3.out.kr HY4.out HY3.out.bl (by have := RQ0.out.n; have := RQ0.out.nr; omega) (by have := HD.out; have := S8.out.bl.size; omega)
          case stop => exact fun _ _ _ _ _ _ h _ => h.elim
end Go.Proofs.Ytojbhmchpglmgaa
