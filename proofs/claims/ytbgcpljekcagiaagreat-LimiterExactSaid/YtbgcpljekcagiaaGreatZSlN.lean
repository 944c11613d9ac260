import Derived.Test.YtbgcpljekcagiaaGreatZIx
import Derived.Test.YtbgcpljekcagiaaGreatGen
import Derived.Laws.CopyRow
import Derived.Test.YtbgcpljekcagiaaGreatZObj
import Derived.BigQuiet
import Derived.OwnWalk
import Derived.Test.YtbgcpljekcagiaaGreatZPhase
import Derived.Deep.CutRange
/- The contracts of layer 6 (slot): New. -/
namespace Go.Proofs.YtbgcpljekcagiaaGreat
set_option linter.unusedSimpArgs false
set_option linter.unusedVariables false
set_option maxRecDepth 100000
open Go.ChangeShapes Go.WideShapes Go.ChangeAt Go.RowKit
open Ar (inR)
/-- a copy of elements of several cells. -/
theorem run_copy_many {P : Program} (w : World) (dT sT ty elem : TypeId) (m g o dLen dCap : Nat) (a : Addr) (sLen sCap : Nat) (cur : Array Value) (t : TypeId) (cs : List Value)
    (hu : P.underlying dT = some (.slice elem)) (hs : (P.info? elem).map (·.size) = some m)
    (hg : w.heap[g]? = some (.cells cur t (0, 0))) (hn : cs.length = Nat.min sLen dLen * m)
    (hsrc : ∀ j v, cs[j]? = some v → w.cell? (a.add j) = some v) (hfit : o + cs.length ≤ cur.size) (h1 : ∀ v ∈ cs, v.oneCell' = true) :
    (Builtin.copy_ #[dT, sT] ty #[.slice (some ⟨g, o, none⟩) dLen dCap, .slice (some a) sLen sCap]).run P w =
      .ok (goInt (Nat.min sLen dLen)) (w.setRow g (cur.toList.take o ++ cs ++ cur.toList.drop (o + cs.length)).toArray) := by
  have hl := run_loadCells_list (P := P) w a cs hsrc
  have hst := run_storeCells_at P g o t cs 0 cur w hg (by simpa using hfit) h1
  cases hq : P.info? elem with
  | none => simp [hq] at hs
  | some i =>
    have hi : i.size = m := by simpa [hq] using hs
    rw [hn] at hl
    simp [Builtin.copy_, run_underlying hu, Builtin.lenOf, Builtin.firstCells, sizeOf, typeInfo, hq, hi, hl, hst]
theorem setRow_obj {w : World} {g : Nat} {cur c : Array Value} {t : TypeId} {f : Nat × Nat} (h : w.heap[g]? = some (.cells cur t f)) : w.setRow g c = setObj w g (.cells c t f) := by
  have := setRow_heap w g cur c t f h
  unfold World.setRow setObj at *
  congr 1
  apply Array.ext_getElem?
  intro k
  by_cases hk : g = k
  · subst hk
    rw [this]; simp [lt_of_block h]
  · simp [Array.getElem?_modify, hk]
theorem row_size : (Tryz.prog.info? 86).map (·.size) = some 3 := by kernel_rfl
theorem sbytes_any (k W : Nat) (h : 8 * (k * W) ≤ 2147483647) (hk : k ≤ 1000000) (hW : W ≤ 2147483647) (w : World) :
    Calls Tryz.prog 77 #[.int .i64 (k : Int), .int .i64 (W : Int)] w fun e w' => e = .returned (.int .i64 (8 * ((k * W : Nat) : Int))) ∧ Below w.heap.size w w' := by
  obtain ⟨m, hm⟩ : ∃ m, m = k * W := ⟨_, rfl⟩
  rw [← hm] at h ⊢
  have c1 := fun w => product_any (k : Int) (W : Int) (by unfold inR; omega) (by unfold inR; omega) w
  have c2 := fun w => product_any 8 (m : Int) (by unfold inR; omega) (by unfold inR; omega) w
  rw [show (k : Int) * (W : Int) = (m : Int) by rw [hm, Int.natCast_mul], show clamp (m : Int) = (m : Int) by unfold clamp; split; omega; split <;> omega] at c1
  rw [show clamp (8 * (m : Int)) = 8 * (m : Int) by unfold clamp; split; omega; split <;> omega] at c2
  have C1 := Lib.hid c1
  have C2 := Lib.hid c2
  clear c1 c2 hm
  go_enter Tryz.func77, Tryz.ntmps77
  go_wp2_with (go_at_call 76; first
    | ((with_reducible refine (C1.out _).mono ?_); rintro e w' ⟨rfl, rfl⟩)
    | ((with_reducible refine (C2.out _).mono ?_); rintro e w' ⟨rfl, rfl⟩))
  go_ret
  exact ⟨rfl, Below.refl _ _⟩
end Go.Proofs.YtbgcpljekcagiaaGreat
/- The contracts of layer 8 (summary): how one lies; what reads it. -/
namespace Go.Proofs.YtbgcpljekcagiaaGreat
set_option linter.unusedSimpArgs false
set_option linter.unusedVariables false
set_option maxRecDepth 100000
open Go.ChangeShapes Go.WideShapes Go.ChangeAt Go.RowKit
/-- an entry: its key, count, what may be others', its place. -/
structure Ent where
  k : ByteArray
  n : Int
  e : Int
  p : Nat
def encE (x : Ent) : List Value := [.int .i64 x.n, .int .i64 x.e, .int .i64 (x.p : Int)]
theorem encE_len (x : Ent) : (encE x).length = 3 := rfl
/-- where a summary lies. -/
structure SmN where
  s : Nat
  g : Nat
  N : IxN
abbrev SmN.n (Q : SmN) : Nat := Q.N.n
/-- what its calls change. -/
def SmN.F (Q : SmN) (k : Nat) : Prop := Q.N.F k ∨ k = Q.s ∨ k = Q.g
def SmN.all (Q : SmN) (k : Nat) : Prop := Q.F k ∨ k = Q.N.x
abbrev smC (Q : SmN) (m : Nat) (tot : Int) : Array Value := #[.pointer (some ⟨Q.N.b, 0, none⟩), .pointer (some ⟨Q.N.x, 0, none⟩), .slice (some ⟨Q.g, 0, none⟩) m Q.N.n, .int .i64 tot]
/-- the entries and the index belong to each other. -/
structure SmOK (n : Nat) (L : List Ent) (tot : Int) (σ : KSt) : Prop where
  key : ∀ x ∈ L, σ.K x.p = some x.k
  has : ∀ i s, σ.K i = some s → ∃ x ∈ L, x.p = i
  nd : (L.map Ent.p).Nodup
  cnt : L.length + σ.fl.length = n
  bd : ∀ x ∈ L, 0 ≤ x.n ∧ x.n ≤ tot ∧ 0 ≤ x.e ∧ x.e ≤ tot
  tb : 0 ≤ tot ∧ tot < 4611686018427387904
structure SmAt (w : World) (Q : SmN) (L : List Ent) (tot : Int) (σ : KSt) : Prop where
  hs : Blk w Q.s 145 (smC Q L.length tot)
  hg : ∃ R : List Ent, Blk w Q.g 154 (rws encE (L ++ R)).toArray ∧ (L ++ R).length = Q.N.n
  ix : IdxAt w Q.N σ
  n1 : 1 ≤ Q.N.n ∧ Q.N.n ≤ 64
  ne : Q.s ≠ Q.g ∧ (∀ k, Q.N.F k ∨ k = Q.N.x → k ≠ Q.g ∧ k ≠ Q.s)
  ok : SmOK Q.N.n L tot σ
section
variable {w W : World} {Q : SmN} {L : List Ent} {tot : Int} {σ : KSt}
theorem SmAt.fr {F : Nat → Prop} (h : SmAt W Q L tot σ) (hf : Fr F W w) (hF : ∀ k, Q.all k → ¬ F k) : SmAt w Q L tot σ := by
  obtain ⟨R, h1, h2⟩ := h.hg
  exact ⟨h.hs.fr hf (hF _ (Or.inl (Or.inr (Or.inl rfl)))), ⟨R, h1.fr hf (hF _ (Or.inl (Or.inr (Or.inr rfl)))), h2⟩, h.ix.fr hf (fun k hk => hF k (by rcases hk with hk | hk; exact Or.inl (Or.inl hk); exact Or.inr hk)), h.n1, h.ne, h.ok⟩
theorem SmAt.keep (h : SmAt W Q L tot σ) (hb : Below W.heap.size W w) : SmAt w Q L tot σ := h.fr (F := fun _ => False) (Fr.of_below hb) (fun _ _ => id)
theorem SmAt.lt (h : SmAt w Q L tot σ) : ∀ k, Q.all k → k < w.heap.size := by
  obtain ⟨R, h1, h2⟩ := h.hg
  rintro k ((hk | hk | hk) | hk)
  · exact h.ix.lt k (Or.inl hk)
  · rw [hk]; exact lt_of_block h.hs
  · rw [hk]; exact lt_of_block h1
  · exact h.ix.lt k (Or.inr hk)
theorem SmAt.le (h : SmAt w Q L tot σ) : L.length ≤ Q.N.n := by have := h.ok.cnt; omega
theorem SmAt.cell (h : SmAt w Q L tot σ) {i : Nat} {x : Ent} (hi : L[i]? = some x) : w.cell? ⟨Q.g, i * 3, none⟩ = some (.int .i64 x.n) ∧ w.cell? ⟨Q.g, i * 3 + 1, none⟩ = some (.int .i64 x.e) ∧ w.cell? ⟨Q.g, i * 3 + 2, none⟩ = some (.int .i64 (x.p : Int)) := by
  obtain ⟨R, h1, h2⟩ := h.hg
  have hi' : (L ++ R)[i]? = some x := by rw [List.getElem?_append_left (List.getElem?_eq_some_iff.1 hi).1]; exact hi
  exact ⟨rws_cell encE_len h1 hi' (j := 0) (by omega), rws_cell encE_len h1 hi' (j := 1) (by omega), rws_cell encE_len h1 hi' (j := 2) (by omega)⟩
/-! #### Len, Total, Least -/
theorem smtotal_any (w : World) (h : SmAt w Q L tot σ) : Calls Tryz.prog 63 #[.pointer (some ⟨Q.s, 0, none⟩)] w fun e w' => e = .returned (.int .i64 tot) ∧ w = w' := by
  have k := h.hs.rd
  clear h
  go_enter Tryz.func63, Tryz.ntmps63
  go_wp2
  go_ret
  exact ⟨rfl, rfl⟩
/-- the least count, of a full one. -/
def leastE (n : Nat) (L : List Ent) : Int := if L.length < n then 0 else match L.getLast? with
  | some x => x.n
  | none => 0
theorem smleast_any (w : World) (h : SmAt w Q L tot σ) : Calls Tryz.prog 125 #[.pointer (some ⟨Q.s, 0, none⟩)] w fun e w' => e = .returned (.int .i64 (leastE Q.N.n L)) ∧ Below w.heap.size w w' := by
  have k := h.hs.rd
  have hn := h.n1
  have hle := h.le
  have CL := Lib.hid (fun wx (hb : Below w.heap.size w wx) => len_any wx ((h.ix.keep hb).ks))
  by_cases hm : L.length < Q.N.n
  · have t1 : decide ((L.length : Int) < (Q.N.n : Int)) = true := by rw [decide_eq_true_iff]; omega
    have e1 : leastE Q.N.n L = 0 := by unfold leastE; rw [if_pos hm]
    rw [e1]
    have HS := Lib.hid h.hs
    clear h hn hle e1
    go_enter Tryz.func125, Tryz.ntmps125
    go_upto_region 1 with (fail)
    have hS : (fun w' : World => ∀ i, w'.cell? ⟨Q.s, i, none⟩ = (smC Q L.length tot)[i]?) w.drew := fun i => (show Blk w.drew Q.s 145 _ from HS.out.keep (below_draws (Below.refl _ _) 1)).rd i
    refine wp_region_held_drew (S := (fun w' : World => ∀ i, w'.cell? ⟨Q.s, i, none⟩ = (smC Q L.length tot)[i]?)) (by kernel_rfl) hS (fun hHeld => ?_)
    refine wpAnyH_take (i := 0) (oi := ?_) (v := ?_) ?_ ?_ ?_ ?_ ?_ ?_ ?_ ?_
    rotate_left 2
    · simp only [List.getElem?_toArray, List.getElem?_cons_succ, List.getElem?_cons_zero]; rfl
    · kernel_rfl
    · kernel_rfl
    · kernel_rfl
    · exact fun _ _ _ h => h
    · refine Or.inl ⟨by rfl, ?_⟩
      intro w' hSw
      (try dsimp only at hSw)
      go_simp
      all_goals (with_reducible rfl)
    · assumption
    try simp only [Act.put, List.setIfInBounds_toArray, List.set_cons_zero, List.set_cons_succ]
    refine wpAnyH_take (i := 1) (oi := ?_) (v := ?_) ?_ ?_ ?_ ?_ ?_ ?_ ?_ ?_
    rotate_left 2
    · simp only [List.getElem?_toArray, List.getElem?_cons_succ, List.getElem?_cons_zero]; rfl
    · kernel_rfl
    · kernel_rfl
    · kernel_rfl
    · exact fun _ _ _ h => h
    · refine Or.inl ⟨by rfl, ?_⟩
      intro w' hSw
      (try dsimp only at hSw)
      go_simp
      all_goals (with_reducible rfl)
    · assumption
    try simp only [Act.put, List.setIfInBounds_toArray, List.set_cons_zero, List.set_cons_succ]
    refine wpAnyH_take (i := 2) (oi := ?_) (v := ?_) ?_ ?_ ?_ ?_ ?_ ?_ ?_ ?_
    rotate_left 2
    · simp only [List.getElem?_toArray, List.getElem?_cons_succ, List.getElem?_cons_zero]; rfl
    · kernel_rfl
    · kernel_rfl
    · kernel_rfl
    · exact fun _ _ _ h => h
    · refine Or.inl ⟨by rfl, ?_⟩
      intro w' hSw
      (try dsimp only at hSw)
      go_simp
      all_goals (with_reducible rfl)
    · assumption
    try simp only [Act.put, List.setIfInBounds_toArray, List.set_cons_zero, List.set_cons_succ]
    refine wpAnyH_take (i := 3) (oi := ?_) (v := ?_) ?_ ?_ ?_ ?_ ?_ ?_ ?_ ?_
    rotate_left 2
    · simp only [List.getElem?_toArray, List.getElem?_cons_succ, List.getElem?_cons_zero]; rfl
    · kernel_rfl
    · kernel_rfl
    · kernel_rfl
    · exact fun _ _ _ h => h
    · refine Or.inl ⟨by rfl, ?_⟩
      intro w' hSw
      (try dsimp only at hSw)
      go_simp
      all_goals (with_reducible rfl)
    · assumption
    try simp only [Act.put, List.setIfInBounds_toArray, List.set_cons_zero, List.set_cons_succ]
    refine wpAnyH_take (i := 4) (oi := ?_) (v := ?_) ?_ ?_ ?_ ?_ ?_ ?_ ?_ ?_
    rotate_left 2
    · simp only [List.getElem?_toArray, List.getElem?_cons_succ, List.getElem?_cons_zero]; rfl
    · kernel_rfl
    · kernel_rfl
    · kernel_rfl
    · exact fun _ _ _ h => h
    · refine Or.inl ⟨by rfl, ?_⟩
      intro w' hSw
      (try dsimp only at hSw)
      go_simp
      all_goals (with_reducible rfl)
    · assumption
    try simp only [Act.put, List.setIfInBounds_toArray, List.set_cons_zero, List.set_cons_succ]
    refine wpAnyH_take (i := 5) (oi := ?_) (v := ?_) ?_ ?_ ?_ ?_ ?_ ?_ ?_ ?_
    rotate_left 2
    · simp only [List.getElem?_toArray, List.getElem?_cons_succ, List.getElem?_cons_zero]; rfl
    · kernel_rfl
    · kernel_rfl
    · kernel_rfl
    · exact fun _ _ _ h => h
    · refine Or.inl ⟨by rfl, ?_⟩
      intro w' hSw
      (try dsimp only at hSw)
      go_simp
      all_goals (with_reducible rfl)
    · assumption
    try simp only [Act.put, List.setIfInBounds_toArray, List.set_cons_zero, List.set_cons_succ]
    refine wpAnyH_take (i := 6) (oi := ?_) (v := ?_) ?_ ?_ ?_ ?_ ?_ ?_ ?_ ?_
    rotate_left 2
    · simp only [List.getElem?_toArray, List.getElem?_cons_succ, List.getElem?_cons_zero]; rfl
    · kernel_rfl
    · kernel_rfl
    · kernel_rfl
    · exact fun _ _ _ h => h
    · refine Or.inl ⟨by rfl, ?_⟩
      intro w' hSw
      (try dsimp only at hSw)
      go_simp
      all_goals (with_reducible rfl)
    · assumption
    try simp only [Act.put, List.setIfInBounds_toArray, List.set_cons_zero, List.set_cons_succ]
    refine wpAnyH_take (i := 7) (oi := ?_) (v := ?_) ?_ ?_ ?_ ?_ ?_ ?_ ?_ ?_
    rotate_left 2
    · simp only [List.getElem?_toArray, List.getElem?_cons_succ, List.getElem?_cons_zero]; rfl
    · kernel_rfl
    · kernel_rfl
    · kernel_rfl
    · exact fun _ _ _ h => h
    · refine Or.inl ⟨by rfl, ?_⟩
      intro w' hSw
      (try dsimp only at hSw)
      go_simp
      all_goals (with_reducible rfl)
    · assumption
    try simp only [Act.put, List.setIfInBounds_toArray, List.set_cons_zero, List.set_cons_succ]
    refine wpAnyH_take (i := 8) (oi := ?_) (v := ?_) ?_ ?_ ?_ ?_ ?_ ?_ ?_ ?_
    rotate_left 2
    · simp only [List.getElem?_toArray, List.getElem?_cons_succ, List.getElem?_cons_zero]; rfl
    · kernel_rfl
    · kernel_rfl
    · kernel_rfl
    · exact fun _ _ _ h => h
    · refine Or.inl ⟨by rfl, ?_⟩
      intro w' hSw
      (try dsimp only at hSw)
      go_simp
      all_goals (with_reducible rfl)
    · assumption
    try simp only [Act.put, List.setIfInBounds_toArray, List.set_cons_zero, List.set_cons_succ]
    refine wpAnyH_take (i := 9) (oi := ?_) (v := ?_) ?_ ?_ ?_ ?_ ?_ ?_ ?_ ?_
    rotate_left 2
    · simp only [List.getElem?_toArray, List.getElem?_cons_succ, List.getElem?_cons_zero]; rfl
    · kernel_rfl
    · kernel_rfl
    · kernel_rfl
    · exact fun _ _ _ h => h
    · refine Or.inl ⟨by rfl, ?_⟩
      intro w' hSw
      (try dsimp only at hSw)
      go_simp
      all_goals (with_reducible rfl)
    · assumption
    try simp only [Act.put, List.setIfInBounds_toArray, List.set_cons_zero, List.set_cons_succ]
    refine wpAnyH_take (i := 10) (oi := ?_) (v := ?_) ?_ ?_ ?_ ?_ ?_ ?_ ?_ ?_
    rotate_left 2
    · simp only [List.getElem?_toArray, List.getElem?_cons_succ, List.getElem?_cons_zero]; rfl
    · kernel_rfl
    · kernel_rfl
    · kernel_rfl
    · exact fun _ _ _ h => h
    · refine Or.inl ⟨by rfl, ?_⟩
      intro w' hSw
      (try dsimp only at hSw)
      go_simp
      all_goals (with_reducible rfl)
    · assumption
    try simp only [Act.put, List.setIfInBounds_toArray, List.set_cons_zero, List.set_cons_succ]
    refine wpAnyH_take (i := 11) (oi := ?_) (v := ?_) ?_ ?_ ?_ ?_ ?_ ?_ ?_ ?_
    rotate_left 2
    · simp only [List.getElem?_toArray, List.getElem?_cons_succ, List.getElem?_cons_zero]; rfl
    · kernel_rfl
    · kernel_rfl
    · kernel_rfl
    · exact fun _ _ _ h => h
    · refine Or.inl ⟨by rfl, ?_⟩
      intro w' hSw
      (try dsimp only at hSw)
      go_simp
      all_goals (with_reducible rfl)
    · assumption
    try simp only [Act.put, List.setIfInBounds_toArray, List.set_cons_zero, List.set_cons_succ]
    refine wpAnyH_ready (rs := [12]) (by kernel_rfl) (by simp) ?_
    refine AllReadyH.cons (o := ?_) ?_ ?_ ?_
    rotate_left 1
    · simp only [List.getElem?_toArray, List.getElem?_cons_succ, List.getElem?_cons_zero]; rfl
    rotate_left 1
    · exact AllReadyH.nil
    intro K hK
    go_simp
    ((with_reducible refine (CL.out w.drew (below_draws (Below.refl _ _) 1)).mono ?_); rintro e wx ⟨rfl, rfl⟩)
    refine hK.out _ _ hHeld (fun hHeld => ?_)
    clear hK K
    try simp only [Act.put, List.setIfInBounds_toArray, List.set_cons_zero, List.set_cons_succ]
    refine wpAnyH_take (i := 13) (oi := ?_) (v := ?_) ?_ ?_ ?_ ?_ ?_ ?_ ?_ ?_
    rotate_left 2
    · simp only [List.getElem?_toArray, List.getElem?_cons_succ, List.getElem?_cons_zero]; rfl
    · kernel_rfl
    · kernel_rfl
    · kernel_rfl
    · exact fun _ _ _ h => h
    · refine Or.inl ⟨by rfl, ?_⟩
      intro w' hSw
      (try dsimp only at hSw)
      go_simp
      all_goals (with_reducible rfl)
    · assumption
    try simp only [Act.put, List.setIfInBounds_toArray, List.set_cons_zero, List.set_cons_succ]
    refine wpAnyH_take (i := 14) (oi := ?_) (v := ?_) ?_ ?_ ?_ ?_ ?_ ?_ ?_ ?_
    rotate_left 2
    · simp only [List.getElem?_toArray, List.getElem?_cons_succ, List.getElem?_cons_zero]; rfl
    · kernel_rfl
    · kernel_rfl
    · kernel_rfl
    · exact fun _ _ _ h => h
    · refine Or.inl ⟨by rfl, ?_⟩
      intro w' hSw
      (try dsimp only at hSw)
      go_simp
      all_goals (with_reducible rfl)
    · assumption
    try simp only [Act.put, List.setIfInBounds_toArray, List.set_cons_zero, List.set_cons_succ]
    refine wpAnyH_done (by kernel_rfl) ?_ _
    clear hHeld hS
    have k := (show Blk w.drew Q.s 145 _ from HS.out.keep (below_draws (Below.refl _ _) 1)).rd
    go_wp2
    go_ret
    exact ⟨rfl, below_draws (Below.refl _ _) _⟩
  · have hlen : L.length = Q.N.n := by omega
    obtain ⟨j, hj⟩ : ∃ j, j = L.length - 1 := ⟨_, rfl⟩
    have hjl : j < L.length := by omega
    have e1 : leastE Q.N.n L = (L[j]).n := by
      unfold leastE
      rw [if_neg hm, List.getLast?_eq_getElem?, ← hj, List.getElem?_eq_getElem hjl]
    obtain ⟨x, hx⟩ : ∃ x, x = L[j] := ⟨_, rfl⟩
    have hxj : L[j]? = some x := by rw [hx]; exact List.getElem?_eq_getElem hjl
    obtain ⟨c0, c1, c2⟩ := h.cell hxj
    have HC := Lib.hid (fun wx (hb : Below w.heap.size w wx) => (h.keep hb).cell hxj)
    rw [e1, ← hx]
    have HS := Lib.hid h.hs
    rw [hlen] at k HS
    have t1 : decide ((Q.N.n : Int) < (Q.N.n : Int)) = false := by rw [decide_eq_false_iff_not]; omega
    have e2 : IntKind.i64.wrap ((Q.N.n : Int) - 1) = (j : Int) := by rw [IntKind.wrap_i64]; omega
    have t2 : (0 : Int) ≤ (j : Int) := by omega
    have t3 : (j : Int) < (Q.N.n : Int) := by omega
    clear h hn hle hm e1 hlen hj hjl hx hxj
    go_enter Tryz.func125, Tryz.ntmps125
    go_upto_region 1 with (fail)
    have hS : (fun w' : World => ∀ i, w'.cell? ⟨Q.s, i, none⟩ = (smC Q Q.N.n tot)[i]?) w.drew := fun i => (show Blk w.drew Q.s 145 _ from HS.out.keep (below_draws (Below.refl _ _) 1)).rd i
    refine wp_region_held_drew (S := (fun w' : World => ∀ i, w'.cell? ⟨Q.s, i, none⟩ = (smC Q Q.N.n tot)[i]?)) (by kernel_rfl) hS (fun hHeld => ?_)
    refine wpAnyH_take (i := 0) (oi := ?_) (v := ?_) ?_ ?_ ?_ ?_ ?_ ?_ ?_ ?_
    rotate_left 2
    · simp only [List.getElem?_toArray, List.getElem?_cons_succ, List.getElem?_cons_zero]; rfl
    · kernel_rfl
    · kernel_rfl
    · kernel_rfl
    · exact fun _ _ _ h => h
    · refine Or.inl ⟨by rfl, ?_⟩
      intro w' hSw
      (try dsimp only at hSw)
      go_simp
      all_goals (with_reducible rfl)
    · assumption
    try simp only [Act.put, List.setIfInBounds_toArray, List.set_cons_zero, List.set_cons_succ]
    refine wpAnyH_take (i := 1) (oi := ?_) (v := ?_) ?_ ?_ ?_ ?_ ?_ ?_ ?_ ?_
    rotate_left 2
    · simp only [List.getElem?_toArray, List.getElem?_cons_succ, List.getElem?_cons_zero]; rfl
    · kernel_rfl
    · kernel_rfl
    · kernel_rfl
    · exact fun _ _ _ h => h
    · refine Or.inl ⟨by rfl, ?_⟩
      intro w' hSw
      (try dsimp only at hSw)
      go_simp
      all_goals (with_reducible rfl)
    · assumption
    try simp only [Act.put, List.setIfInBounds_toArray, List.set_cons_zero, List.set_cons_succ]
    refine wpAnyH_take (i := 2) (oi := ?_) (v := ?_) ?_ ?_ ?_ ?_ ?_ ?_ ?_ ?_
    rotate_left 2
    · simp only [List.getElem?_toArray, List.getElem?_cons_succ, List.getElem?_cons_zero]; rfl
    · kernel_rfl
    · kernel_rfl
    · kernel_rfl
    · exact fun _ _ _ h => h
    · refine Or.inl ⟨by rfl, ?_⟩
      intro w' hSw
      (try dsimp only at hSw)
      go_simp
      all_goals (with_reducible rfl)
    · assumption
    try simp only [Act.put, List.setIfInBounds_toArray, List.set_cons_zero, List.set_cons_succ]
    refine wpAnyH_take (i := 3) (oi := ?_) (v := ?_) ?_ ?_ ?_ ?_ ?_ ?_ ?_ ?_
    rotate_left 2
    · simp only [List.getElem?_toArray, List.getElem?_cons_succ, List.getElem?_cons_zero]; rfl
    · kernel_rfl
    · kernel_rfl
    · kernel_rfl
    · exact fun _ _ _ h => h
    · refine Or.inl ⟨by rfl, ?_⟩
      intro w' hSw
      (try dsimp only at hSw)
      go_simp
      all_goals (with_reducible rfl)
    · assumption
    try simp only [Act.put, List.setIfInBounds_toArray, List.set_cons_zero, List.set_cons_succ]
    refine wpAnyH_take (i := 4) (oi := ?_) (v := ?_) ?_ ?_ ?_ ?_ ?_ ?_ ?_ ?_
    rotate_left 2
    · simp only [List.getElem?_toArray, List.getElem?_cons_succ, List.getElem?_cons_zero]; rfl
    · kernel_rfl
    · kernel_rfl
    · kernel_rfl
    · exact fun _ _ _ h => h
    · refine Or.inl ⟨by rfl, ?_⟩
      intro w' hSw
      (try dsimp only at hSw)
      go_simp
      all_goals (with_reducible rfl)
    · assumption
    try simp only [Act.put, List.setIfInBounds_toArray, List.set_cons_zero, List.set_cons_succ]
    refine wpAnyH_take (i := 5) (oi := ?_) (v := ?_) ?_ ?_ ?_ ?_ ?_ ?_ ?_ ?_
    rotate_left 2
    · simp only [List.getElem?_toArray, List.getElem?_cons_succ, List.getElem?_cons_zero]; rfl
    · kernel_rfl
    · kernel_rfl
    · kernel_rfl
    · exact fun _ _ _ h => h
    · refine Or.inl ⟨by rfl, ?_⟩
      intro w' hSw
      (try dsimp only at hSw)
      go_simp
      all_goals (with_reducible rfl)
    · assumption
    try simp only [Act.put, List.setIfInBounds_toArray, List.set_cons_zero, List.set_cons_succ]
    refine wpAnyH_take (i := 6) (oi := ?_) (v := ?_) ?_ ?_ ?_ ?_ ?_ ?_ ?_ ?_
    rotate_left 2
    · simp only [List.getElem?_toArray, List.getElem?_cons_succ, List.getElem?_cons_zero]; rfl
    · kernel_rfl
    · kernel_rfl
    · kernel_rfl
    · exact fun _ _ _ h => h
    · refine Or.inl ⟨by rfl, ?_⟩
      intro w' hSw
      (try dsimp only at hSw)
      go_simp
      all_goals (with_reducible rfl)
    · assumption
    try simp only [Act.put, List.setIfInBounds_toArray, List.set_cons_zero, List.set_cons_succ]
    refine wpAnyH_take (i := 7) (oi := ?_) (v := ?_) ?_ ?_ ?_ ?_ ?_ ?_ ?_ ?_
    rotate_left 2
    · simp only [List.getElem?_toArray, List.getElem?_cons_succ, List.getElem?_cons_zero]; rfl
    · kernel_rfl
    · kernel_rfl
    · kernel_rfl
    · exact fun _ _ _ h => h
    · refine Or.inl ⟨by rfl, ?_⟩
      intro w' hSw
      (try dsimp only at hSw)
      go_simp
      all_goals (with_reducible rfl)
    · assumption
    try simp only [Act.put, List.setIfInBounds_toArray, List.set_cons_zero, List.set_cons_succ]
    refine wpAnyH_take (i := 8) (oi := ?_) (v := ?_) ?_ ?_ ?_ ?_ ?_ ?_ ?_ ?_
    rotate_left 2
    · simp only [List.getElem?_toArray, List.getElem?_cons_succ, List.getElem?_cons_zero]; rfl
    · kernel_rfl
    · kernel_rfl
    · kernel_rfl
    · exact fun _ _ _ h => h
    · refine Or.inl ⟨by rfl, ?_⟩
      intro w' hSw
      (try dsimp only at hSw)
      go_simp
      all_goals (with_reducible rfl)
    · assumption
    try simp only [Act.put, List.setIfInBounds_toArray, List.set_cons_zero, List.set_cons_succ]
    refine wpAnyH_take (i := 9) (oi := ?_) (v := ?_) ?_ ?_ ?_ ?_ ?_ ?_ ?_ ?_
    rotate_left 2
    · simp only [List.getElem?_toArray, List.getElem?_cons_succ, List.getElem?_cons_zero]; rfl
    · kernel_rfl
    · kernel_rfl
    · kernel_rfl
    · exact fun _ _ _ h => h
    · refine Or.inl ⟨by rfl, ?_⟩
      intro w' hSw
      (try dsimp only at hSw)
      go_simp
      all_goals (with_reducible rfl)
    · assumption
    try simp only [Act.put, List.setIfInBounds_toArray, List.set_cons_zero, List.set_cons_succ]
    refine wpAnyH_take (i := 10) (oi := ?_) (v := ?_) ?_ ?_ ?_ ?_ ?_ ?_ ?_ ?_
    rotate_left 2
    · simp only [List.getElem?_toArray, List.getElem?_cons_succ, List.getElem?_cons_zero]; rfl
    · kernel_rfl
    · kernel_rfl
    · kernel_rfl
    · exact fun _ _ _ h => h
    · refine Or.inl ⟨by rfl, ?_⟩
      intro w' hSw
      (try dsimp only at hSw)
      go_simp
      all_goals (with_reducible rfl)
    · assumption
    try simp only [Act.put, List.setIfInBounds_toArray, List.set_cons_zero, List.set_cons_succ]
    refine wpAnyH_take (i := 11) (oi := ?_) (v := ?_) ?_ ?_ ?_ ?_ ?_ ?_ ?_ ?_
    rotate_left 2
    · simp only [List.getElem?_toArray, List.getElem?_cons_succ, List.getElem?_cons_zero]; rfl
    · kernel_rfl
    · kernel_rfl
    · kernel_rfl
    · exact fun _ _ _ h => h
    · refine Or.inl ⟨by rfl, ?_⟩
      intro w' hSw
      (try dsimp only at hSw)
      go_simp
      all_goals (with_reducible rfl)
    · assumption
    try simp only [Act.put, List.setIfInBounds_toArray, List.set_cons_zero, List.set_cons_succ]
    refine wpAnyH_ready (rs := [12]) (by kernel_rfl) (by simp) ?_
    refine AllReadyH.cons (o := ?_) ?_ ?_ ?_
    rotate_left 1
    · simp only [List.getElem?_toArray, List.getElem?_cons_succ, List.getElem?_cons_zero]; rfl
    rotate_left 1
    · exact AllReadyH.nil
    intro K hK
    go_simp
    ((with_reducible refine (CL.out w.drew (below_draws (Below.refl _ _) 1)).mono ?_); rintro e wx ⟨rfl, rfl⟩)
    refine hK.out _ _ hHeld (fun hHeld => ?_)
    clear hK K
    try simp only [Act.put, List.setIfInBounds_toArray, List.set_cons_zero, List.set_cons_succ]
    refine wpAnyH_take (i := 13) (oi := ?_) (v := ?_) ?_ ?_ ?_ ?_ ?_ ?_ ?_ ?_
    rotate_left 2
    · simp only [List.getElem?_toArray, List.getElem?_cons_succ, List.getElem?_cons_zero]; rfl
    · kernel_rfl
    · kernel_rfl
    · kernel_rfl
    · exact fun _ _ _ h => h
    · refine Or.inl ⟨by rfl, ?_⟩
      intro w' hSw
      (try dsimp only at hSw)
      go_simp
      all_goals (with_reducible rfl)
    · assumption
    try simp only [Act.put, List.setIfInBounds_toArray, List.set_cons_zero, List.set_cons_succ]
    refine wpAnyH_take (i := 14) (oi := ?_) (v := ?_) ?_ ?_ ?_ ?_ ?_ ?_ ?_ ?_
    rotate_left 2
    · simp only [List.getElem?_toArray, List.getElem?_cons_succ, List.getElem?_cons_zero]; rfl
    · kernel_rfl
    · kernel_rfl
    · kernel_rfl
    · exact fun _ _ _ h => h
    · refine Or.inl ⟨by rfl, ?_⟩
      intro w' hSw
      (try dsimp only at hSw)
      go_simp
      all_goals (with_reducible rfl)
    · assumption
    try simp only [Act.put, List.setIfInBounds_toArray, List.set_cons_zero, List.set_cons_succ]
    refine wpAnyH_done (by kernel_rfl) ?_ _
    clear hHeld hS
    clear k c0 c1 c2
    have k := (show Blk w.drew Q.s 145 _ from HS.out.keep (below_draws (Below.refl _ _) 1)).rd
    obtain ⟨c0, c1, c2⟩ := HC.out w.drew (below_draws (Below.refl _ _) 1)
    go_upto_region 3 with (fail)
    have hS : (fun w' : World => (∀ i, w'.cell? ⟨Q.s, i, none⟩ = (smC Q Q.N.n tot)[i]?) ∧ w'.cell? ⟨Q.g, j * 3, none⟩ = some (.int .i64 x.n)) w.drew.drew := ⟨(show Blk w.drew.drew Q.s 145 _ from HS.out.keep (below_draws (Below.refl _ _) 2)).rd, (HC.out w.drew.drew (below_draws (Below.refl _ _) 2)).1⟩
    refine wp_region_held_drew (S := (fun w' : World => (∀ i, w'.cell? ⟨Q.s, i, none⟩ = (smC Q Q.N.n tot)[i]?) ∧ w'.cell? ⟨Q.g, j * 3, none⟩ = some (.int .i64 x.n))) (by kernel_rfl) hS (fun hHeld => ?_)
    refine wpAnyH_take (i := 0) (oi := ?_) (v := ?_) ?_ ?_ ?_ ?_ ?_ ?_ ?_ ?_
    rotate_left 2
    · simp only [List.getElem?_toArray, List.getElem?_cons_succ, List.getElem?_cons_zero]; rfl
    · kernel_rfl
    · kernel_rfl
    · kernel_rfl
    · exact fun _ _ _ h => h
    · refine Or.inl ⟨by rfl, ?_⟩
      intro w' hSw
      (try dsimp only at hSw)
      go_simp
      all_goals (with_reducible rfl)
    · assumption
    try simp only [Act.put, List.setIfInBounds_toArray, List.set_cons_zero, List.set_cons_succ]
    refine wpAnyH_take (i := 1) (oi := ?_) (v := ?_) ?_ ?_ ?_ ?_ ?_ ?_ ?_ ?_
    rotate_left 2
    · simp only [List.getElem?_toArray, List.getElem?_cons_succ, List.getElem?_cons_zero]; rfl
    · kernel_rfl
    · kernel_rfl
    · kernel_rfl
    · exact fun _ _ _ h => h
    · refine Or.inl ⟨by rfl, ?_⟩
      intro w' hSw
      (try dsimp only at hSw)
      go_simp
      all_goals (with_reducible rfl)
    · assumption
    try simp only [Act.put, List.setIfInBounds_toArray, List.set_cons_zero, List.set_cons_succ]
    refine wpAnyH_take (i := 2) (oi := ?_) (v := ?_) ?_ ?_ ?_ ?_ ?_ ?_ ?_ ?_
    rotate_left 2
    · simp only [List.getElem?_toArray, List.getElem?_cons_succ, List.getElem?_cons_zero]; rfl
    · kernel_rfl
    · kernel_rfl
    · kernel_rfl
    · exact fun _ _ _ h => h
    · refine Or.inl ⟨by rfl, ?_⟩
      intro w' hSw
      (try dsimp only at hSw)
      go_simp
      all_goals (with_reducible rfl)
    · assumption
    try simp only [Act.put, List.setIfInBounds_toArray, List.set_cons_zero, List.set_cons_succ]
    refine wpAnyH_take (i := 3) (oi := ?_) (v := ?_) ?_ ?_ ?_ ?_ ?_ ?_ ?_ ?_
    rotate_left 2
    · simp only [List.getElem?_toArray, List.getElem?_cons_succ, List.getElem?_cons_zero]; rfl
    · kernel_rfl
    · kernel_rfl
    · kernel_rfl
    · exact fun _ _ _ h => h
    · refine Or.inl ⟨by rfl, ?_⟩
      intro w' hSw
      (try dsimp only at hSw)
      go_simp
      all_goals (with_reducible rfl)
    · assumption
    try simp only [Act.put, List.setIfInBounds_toArray, List.set_cons_zero, List.set_cons_succ]
    refine wpAnyH_take (i := 4) (oi := ?_) (v := ?_) ?_ ?_ ?_ ?_ ?_ ?_ ?_ ?_
    rotate_left 2
    · simp only [List.getElem?_toArray, List.getElem?_cons_succ, List.getElem?_cons_zero]; rfl
    · kernel_rfl
    · kernel_rfl
    · kernel_rfl
    · exact fun _ _ _ h => h
    · refine Or.inl ⟨by rfl, ?_⟩
      intro w' hSw
      (try dsimp only at hSw)
      go_simp
      all_goals (with_reducible rfl)
    · assumption
    try simp only [Act.put, List.setIfInBounds_toArray, List.set_cons_zero, List.set_cons_succ]
    refine wpAnyH_take (i := 5) (oi := ?_) (v := ?_) ?_ ?_ ?_ ?_ ?_ ?_ ?_ ?_
    rotate_left 2
    · simp only [List.getElem?_toArray, List.getElem?_cons_succ, List.getElem?_cons_zero]; rfl
    · kernel_rfl
    · kernel_rfl
    · kernel_rfl
    · exact fun _ _ _ h => h
    · refine Or.inl ⟨by rfl, ?_⟩
      intro w' hSw
      (try dsimp only at hSw)
      go_simp
      all_goals (with_reducible rfl)
    · assumption
    try simp only [Act.put, List.setIfInBounds_toArray, List.set_cons_zero, List.set_cons_succ]
    refine wpAnyH_take (i := 6) (oi := ?_) (v := ?_) ?_ ?_ ?_ ?_ ?_ ?_ ?_ ?_
    rotate_left 2
    · simp only [List.getElem?_toArray, List.getElem?_cons_succ, List.getElem?_cons_zero]; rfl
    · kernel_rfl
    · kernel_rfl
    · kernel_rfl
    · exact fun _ _ _ h => h
    · refine Or.inl ⟨by rfl, ?_⟩
      intro w' hSw
      (try dsimp only at hSw)
      go_simp
      all_goals (with_reducible rfl)
    · assumption
    try simp only [Act.put, List.setIfInBounds_toArray, List.set_cons_zero, List.set_cons_succ]
    refine wpAnyH_take (i := 7) (oi := ?_) (v := ?_) ?_ ?_ ?_ ?_ ?_ ?_ ?_ ?_
    rotate_left 2
    · simp only [List.getElem?_toArray, List.getElem?_cons_succ, List.getElem?_cons_zero]; rfl
    · kernel_rfl
    · kernel_rfl
    · kernel_rfl
    · exact fun _ _ _ h => h
    · refine Or.inl ⟨by rfl, ?_⟩
      intro w' hSw
      (try dsimp only at hSw)
      go_simp
      all_goals (with_reducible rfl)
    · assumption
    try simp only [Act.put, List.setIfInBounds_toArray, List.set_cons_zero, List.set_cons_succ]
    refine wpAnyH_take (i := 8) (oi := ?_) (v := ?_) ?_ ?_ ?_ ?_ ?_ ?_ ?_ ?_
    rotate_left 2
    · simp only [List.getElem?_toArray, List.getElem?_cons_succ, List.getElem?_cons_zero]; rfl
    · kernel_rfl
    · kernel_rfl
    · kernel_rfl
    · exact fun _ _ _ h => h
    · refine Or.inl ⟨by rfl, ?_⟩
      intro w' hSw
      (try dsimp only at hSw)
      go_simp
      all_goals (with_reducible rfl)
    · assumption
    try simp only [Act.put, List.setIfInBounds_toArray, List.set_cons_zero, List.set_cons_succ]
    refine wpAnyH_take (i := 9) (oi := ?_) (v := ?_) ?_ ?_ ?_ ?_ ?_ ?_ ?_ ?_
    rotate_left 2
    · simp only [List.getElem?_toArray, List.getElem?_cons_succ, List.getElem?_cons_zero]; rfl
    · kernel_rfl
    · kernel_rfl
    · kernel_rfl
    · exact fun _ _ _ h => h
    · refine Or.inl ⟨by rfl, ?_⟩
      intro w' hSw
      (try dsimp only at hSw)
      go_simp
      all_goals (with_reducible rfl)
    · assumption
    try simp only [Act.put, List.setIfInBounds_toArray, List.set_cons_zero, List.set_cons_succ]
    refine wpAnyH_take (i := 10) (oi := ?_) (v := ?_) ?_ ?_ ?_ ?_ ?_ ?_ ?_ ?_
    rotate_left 2
    · simp only [List.getElem?_toArray, List.getElem?_cons_succ, List.getElem?_cons_zero]; rfl
    · kernel_rfl
    · kernel_rfl
    · kernel_rfl
    · exact fun _ _ _ h => h
    · refine Or.inl ⟨by rfl, ?_⟩
      intro w' hSw
      (try dsimp only at hSw)
      go_simp
      all_goals (with_reducible rfl)
    · assumption
    try simp only [Act.put, List.setIfInBounds_toArray, List.set_cons_zero, List.set_cons_succ]
    refine wpAnyH_take (i := 11) (oi := ?_) (v := ?_) ?_ ?_ ?_ ?_ ?_ ?_ ?_ ?_
    rotate_left 2
    · simp only [List.getElem?_toArray, List.getElem?_cons_succ, List.getElem?_cons_zero]; rfl
    · kernel_rfl
    · kernel_rfl
    · kernel_rfl
    · exact fun _ _ _ h => h
    · refine Or.inl ⟨by rfl, ?_⟩
      intro w' hSw
      (try dsimp only at hSw)
      go_simp
      all_goals (with_reducible rfl)
    · assumption
    try simp only [Act.put, List.setIfInBounds_toArray, List.set_cons_zero, List.set_cons_succ]
    refine wpAnyH_take (i := 12) (oi := ?_) (v := ?_) ?_ ?_ ?_ ?_ ?_ ?_ ?_ ?_
    rotate_left 2
    · simp only [List.getElem?_toArray, List.getElem?_cons_succ, List.getElem?_cons_zero]; rfl
    · kernel_rfl
    · kernel_rfl
    · kernel_rfl
    · exact fun _ _ _ h => h
    · refine Or.inl ⟨by rfl, ?_⟩
      intro w' hSw
      (try dsimp only at hSw)
      go_simp
      all_goals (with_reducible rfl)
    · assumption
    try simp only [Act.put, List.setIfInBounds_toArray, List.set_cons_zero, List.set_cons_succ]
    refine wpAnyH_take (i := 13) (oi := ?_) (v := ?_) ?_ ?_ ?_ ?_ ?_ ?_ ?_ ?_
    rotate_left 2
    · simp only [List.getElem?_toArray, List.getElem?_cons_succ, List.getElem?_cons_zero]; rfl
    · kernel_rfl
    · kernel_rfl
    · kernel_rfl
    · exact fun _ _ _ h => h
    · refine Or.inl ⟨by rfl, ?_⟩
      intro w' hSw
      (try dsimp only at hSw)
      go_simp
      all_goals (with_reducible rfl)
    · assumption
    try simp only [Act.put, List.setIfInBounds_toArray, List.set_cons_zero, List.set_cons_succ]
    refine wpAnyH_done (by kernel_rfl) ?_ _
    clear hHeld hS
    go_wp2
    go_ret
    exact ⟨rfl, (show Below w.heap.size w w.drew.drew from below_draws (Below.refl _ _) 2)⟩
end
end Go.Proofs.YtbgcpljekcagiaaGreat
/- The contracts of layer 8 (summary): find, Count. -/
namespace Go.Proofs.YtbgcpljekcagiaaGreat
set_option linter.unusedSimpArgs false
set_option linter.unusedVariables false
set_option maxRecDepth 100000
open Go.ChangeShapes Go.WideShapes Go.ChangeAt Go.RowKit
section
variable {w W : World} {Q : SmN} {L : List Ent} {tot : Int} {σ : KSt}
theorem SmOK.pos {n : Nat} (h : SmOK n L tot σ) (hu : (∀ i j s, σ.K i = some s → σ.K j = some s → i = j) ∧ (∀ i s, σ.K i = some s → i < n ∧ s.size ≤ 64)) {x : Ent} (hx : x ∈ L) : posN n σ.K x.k = some x.p :=
  posN_at (hu.2 _ _ (h.key x hx)).1 (h.key x hx) hu.1
theorem SmOK.no {n : Nat} (h : SmOK n L tot σ) {s : ByteArray} (hs : ∀ x ∈ L, x.k ≠ s) : posN n σ.K s = none :=
  posN_no (fun i _ e => by
    obtain ⟨x, hx, hp⟩ := h.has i s e
    have := h.key x hx
    rw [hp, e] at this
    exact hs x hx (Option.some.inj this).symm)
theorem SmOK.other {n : Nat} (h : SmOK n L tot σ) {i j : Nat} {x y : Ent} (hi : L[i]? = some y) (hj : L[j]? = some x) (hij : i ≠ j) : y.p ≠ x.p := fun e => by
  have hi' := List.getElem?_eq_some_iff.1 hi
  have hj' := List.getElem?_eq_some_iff.1 hj
  obtain ⟨li, ei⟩ := hi'
  obtain ⟨lj, ej⟩ := hj'
  have hp := List.pairwise_iff_getElem.1 h.nd
  have key : ∀ a b (la : a < L.length) (lb : b < L.length), a < b → L[a].p ≠ L[b].p := fun a b la lb hab => by
    have := hp a b (by simpa using la) (by simpa using lb) hab
    simpa using this
  rcases Nat.lt_or_gt_of_ne hij with h1 | h1
  · exact key i j li lj h1 (by rw [ei, ej]; exact e)
  · exact key j i lj li h1 (by rw [ei, ej]; exact e.symm)
theorem smfind_no (s : ByteArray) (hs : s.size ≤ maxLen) (w : World) (h : SmAt w Q L tot σ) (hk : ∀ x ∈ L, x.k ≠ s) : Calls Tryz.prog 95 #[.pointer (some ⟨Q.s, 0, none⟩), .string s] w fun e w' => e = .returned (.int .i64 (-1)) ∧ Below w.heap.size w w' := by
  have CF := Lib.hid (ixfind_any s hs w h.ix)
  rw [h.ok.no hk] at CF
  have k := h.hs.rd
  clear h hk
  go_enter Tryz.func95, Tryz.ntmps95
  go_wp2_with (go_at_call 111; refine (show Calls Tryz.prog 111 #[.pointer (some ⟨Q.N.x, 0, none⟩), .string s] w (fun e w' => e = .returned (.int .i64 (-1)) ∧ Below w.heap.size w w') from CF.out).mono ?_; rintro e w1 ⟨rfl, b1⟩; have B1 := Lib.hid b1; clear b1)
  go_ret
  exact ⟨rfl, B1.out⟩
theorem smfind_yes (j : Nat) (x : Ent) (hs : x.k.size ≤ maxLen) (w : World) (h : SmAt w Q L tot σ) (hj : L[j]? = some x) : Calls Tryz.prog 95 #[.pointer (some ⟨Q.s, 0, none⟩), .string x.k] w fun e w' => e = .returned (.int .i64 (j : Int)) ∧ Below w.heap.size w w' := by
  have CF := Lib.hid (ixfind_any x.k hs w h.ix)
  have hu := h.ix.uni
  rw [h.ok.pos ⟨hu.1, hu.2.1⟩ (List.mem_of_getElem? hj)] at CF
  have k := h.hs.rd
  have hle := h.le
  have hn := h.n1
  have hjl := (List.getElem?_eq_some_iff.1 hj).1
  have t0 : decide ((x.p : Int) < 0) = false := by rw [decide_eq_false_iff_not]; omega
  have HH := Lib.hid h
  have HJ := Lib.hid hj
  obtain ⟨m, hm⟩ : ∃ m, m = L.length := ⟨_, rfl⟩
  rw [← hm] at k hjl hle
  have HM := Lib.hid hm
  clear h hj hu hm
  go_enter Tryz.func95, Tryz.ntmps95
  go_upto_region 6 with (go_at_call 111; refine (show Calls Tryz.prog 111 #[.pointer (some ⟨Q.N.x, 0, none⟩), .string x.k] w (fun e w' => e = .returned (.int .i64 (x.p : Int)) ∧ Below w.heap.size w w') from CF.out).mono ?_; rintro e w1 ⟨rfl, b1⟩; have B1 := Lib.hid b1; clear b1)
  clear k
  have H1 := Lib.hid (HH.out.keep B1.out)
  go_wp2
  go_loopg [6] m (fun k0 si wr => ∃ i : Nat, Hid (k0 = m - i) ∧ si = .int .i64 (i : Int) ∧ i ≤ j ∧ Hid (wr = w1))
  case atStart => exact ⟨0, Lib.hid rfl, rfl, Nat.zero_le _, Lib.hid rfl⟩
  case round =>
    obtain ⟨i, HK, rfl, hij, HW⟩ := hrel
    have hw := HW.out
    subst hw
    have il : i < m := by omega
    obtain ⟨y, hy⟩ : ∃ y, L[i]? = some y := ⟨_, List.getElem?_eq_getElem (by rw [← HM.out]; exact il)⟩
    obtain ⟨c0, c1, c2⟩ := H1.out.cell hy
    have k := H1.out.hs.rd
    rw [← HM.out] at k
    have t1 : (0 : Int) ≤ (i : Int) := by omega
    have t2 : (i : Int) < (m : Int) := by omega
    by_cases e : i = j
    · have hxy : y = x := by have := HJ.out; rw [← e, hy] at this; exact Option.some.inj this
      rw [hxy] at c2
      have b1 : ((x.p : Int) != (x.p : Int)) = false := by simp
      subst e
      clear hy hxy c0 c1 hij il
      go_wp2
      go_ret
      exact ⟨rfl, B1.out⟩
    · have hne := HH.out.ok.other hy HJ.out e
      have b1 : ((y.p : Int) != (x.p : Int)) = true := by simp; omega
      have fi : IntKind.i64.wrap ((i : Int) + 1) = ((i + 1 : Nat) : Int) := by rw [IntKind.wrap_i64]; omega
      have HI := Lib.hid (show i + 1 ≤ j ∧ m - (i + 1) < m - i by omega)
      clear hy c0 c1 hne hij il e
      go_wp2
      go_roundg (m - (i + 1))
      case measure => have := HK.out; have := HI.out; omega
      case rel => exact ⟨i + 1, Lib.hid rfl, rfl, HI.out.1, Lib.hid rfl⟩
theorem smcount_no (s : ByteArray) (hs : s.size ≤ maxLen) (w : World) (h : SmAt w Q L tot σ) (hk : ∀ x ∈ L, x.k ≠ s) : Calls Tryz.prog 127 #[.pointer (some ⟨Q.s, 0, none⟩), .string s] w fun e w' => e = .returned (.tuple #[.int .i64 0, .int .i64 0, .bool false]) ∧ Below w.heap.size w w' := by
  have C := Lib.hid (smfind_no s hs w h hk)
  clear h hk
  go_enter Tryz.func127, Tryz.ntmps127
  go_wp2_with (go_at_call 95; ((with_reducible refine C.out.mono ?_); rintro e w1 ⟨rfl, b1⟩; have B1 := Lib.hid b1; clear b1))
  go_ret3
  exact ⟨rfl, B1.out⟩
theorem smcount_yes (j : Nat) (x : Ent) (hs : x.k.size ≤ maxLen) (w : World) (h : SmAt w Q L tot σ) (hj : L[j]? = some x) : Calls Tryz.prog 127 #[.pointer (some ⟨Q.s, 0, none⟩), .string x.k] w fun e w' => e = .returned (.tuple #[.int .i64 x.n, .int .i64 x.e, .bool true]) ∧ Below w.heap.size w w' := by
  have C := Lib.hid (smfind_yes j x hs w h hj)
  have hjl := (List.getElem?_eq_some_iff.1 hj).1
  have hle := h.le
  have hn := h.n1
  have HH := Lib.hid h
  have t1 : (0 : Int) ≤ (j : Int) := by omega
  have t0 : decide ((j : Int) < 0) = false := by rw [decide_eq_false_iff_not]; omega
  obtain ⟨m, hm⟩ : ∃ m, m = L.length := ⟨_, rfl⟩
  have t2 : (j : Int) < (m : Int) := by omega
  have HM := Lib.hid hm
  have HJ := Lib.hid hj
  clear h hjl hle hn hm hj
  go_enter Tryz.func127, Tryz.ntmps127
  go_upto_region 4 with (go_at_call 95; ((with_reducible refine C.out.mono ?_); rintro e w1 ⟨rfl, b1⟩; have B1 := Lib.hid b1; clear b1))
  have H2 := Lib.hid (HH.out.keep (show Below w.heap.size w w1.drew from below_draws B1.out 1))
  have hS : (fun w' : World => (∀ i, w'.cell? ⟨Q.s, i, none⟩ = (smC Q m tot)[i]?) ∧ w'.cell? ⟨Q.g, j * 3, none⟩ = some (.int .i64 x.n) ∧ w'.cell? ⟨Q.g, j * 3 + 1, none⟩ = some (.int .i64 x.e)) w1.drew := ⟨by rw [HM.out]; exact H2.out.hs.rd, (H2.out.cell HJ.out).1, (H2.out.cell HJ.out).2.1⟩
  refine wp_region_held_drew (S := (fun w' : World => (∀ i, w'.cell? ⟨Q.s, i, none⟩ = (smC Q m tot)[i]?) ∧ w'.cell? ⟨Q.g, j * 3, none⟩ = some (.int .i64 x.n) ∧ w'.cell? ⟨Q.g, j * 3 + 1, none⟩ = some (.int .i64 x.e))) (by kernel_rfl) hS (fun hHeld => ?_)
  refine wpAnyH_take (i := 0) (oi := ?_) (v := ?_) ?_ ?_ ?_ ?_ ?_ ?_ ?_ ?_
  rotate_left 2
  · simp only [List.getElem?_toArray, List.getElem?_cons_succ, List.getElem?_cons_zero]; rfl
  · kernel_rfl
  · kernel_rfl
  · kernel_rfl
  · exact fun _ _ _ h => h
  · refine Or.inl ⟨by rfl, ?_⟩
    intro w' hSw
    (try dsimp only at hSw)
    go_simp
    all_goals (with_reducible rfl)
  · assumption
  try simp only [Act.put, List.setIfInBounds_toArray, List.set_cons_zero, List.set_cons_succ]
  refine wpAnyH_take (i := 1) (oi := ?_) (v := ?_) ?_ ?_ ?_ ?_ ?_ ?_ ?_ ?_
  rotate_left 2
  · simp only [List.getElem?_toArray, List.getElem?_cons_succ, List.getElem?_cons_zero]; rfl
  · kernel_rfl
  · kernel_rfl
  · kernel_rfl
  · exact fun _ _ _ h => h
  · refine Or.inl ⟨by rfl, ?_⟩
    intro w' hSw
    (try dsimp only at hSw)
    go_simp
    all_goals (with_reducible rfl)
  · assumption
  try simp only [Act.put, List.setIfInBounds_toArray, List.set_cons_zero, List.set_cons_succ]
  refine wpAnyH_take (i := 2) (oi := ?_) (v := ?_) ?_ ?_ ?_ ?_ ?_ ?_ ?_ ?_
  rotate_left 2
  · simp only [List.getElem?_toArray, List.getElem?_cons_succ, List.getElem?_cons_zero]; rfl
  · kernel_rfl
  · kernel_rfl
  · kernel_rfl
  · exact fun _ _ _ h => h
  · refine Or.inl ⟨by rfl, ?_⟩
    intro w' hSw
    (try dsimp only at hSw)
    go_simp
    all_goals (with_reducible rfl)
  · assumption
  try simp only [Act.put, List.setIfInBounds_toArray, List.set_cons_zero, List.set_cons_succ]
  refine wpAnyH_take (i := 3) (oi := ?_) (v := ?_) ?_ ?_ ?_ ?_ ?_ ?_ ?_ ?_
  rotate_left 2
  · simp only [List.getElem?_toArray, List.getElem?_cons_succ, List.getElem?_cons_zero]; rfl
  · kernel_rfl
  · kernel_rfl
  · kernel_rfl
  · exact fun _ _ _ h => h
  · refine Or.inl ⟨by rfl, ?_⟩
    intro w' hSw
    (try dsimp only at hSw)
    go_simp
    all_goals (with_reducible rfl)
  · assumption
  try simp only [Act.put, List.setIfInBounds_toArray, List.set_cons_zero, List.set_cons_succ]
  refine wpAnyH_take (i := 4) (oi := ?_) (v := ?_) ?_ ?_ ?_ ?_ ?_ ?_ ?_ ?_
  rotate_left 2
  · simp only [List.getElem?_toArray, List.getElem?_cons_succ, List.getElem?_cons_zero]; rfl
  · kernel_rfl
  · kernel_rfl
  · kernel_rfl
  · exact fun _ _ _ h => h
  · refine Or.inl ⟨by rfl, ?_⟩
    intro w' hSw
    (try dsimp only at hSw)
    go_simp
    all_goals (with_reducible rfl)
  · assumption
  try simp only [Act.put, List.setIfInBounds_toArray, List.set_cons_zero, List.set_cons_succ]
  refine wpAnyH_take (i := 5) (oi := ?_) (v := ?_) ?_ ?_ ?_ ?_ ?_ ?_ ?_ ?_
  rotate_left 2
  · simp only [List.getElem?_toArray, List.getElem?_cons_succ, List.getElem?_cons_zero]; rfl
  · kernel_rfl
  · kernel_rfl
  · kernel_rfl
  · exact fun _ _ _ h => h
  · refine Or.inl ⟨by rfl, ?_⟩
    intro w' hSw
    (try dsimp only at hSw)
    go_simp
    all_goals (with_reducible rfl)
  · assumption
  try simp only [Act.put, List.setIfInBounds_toArray, List.set_cons_zero, List.set_cons_succ]
  refine wpAnyH_take (i := 6) (oi := ?_) (v := ?_) ?_ ?_ ?_ ?_ ?_ ?_ ?_ ?_
  rotate_left 2
  · simp only [List.getElem?_toArray, List.getElem?_cons_succ, List.getElem?_cons_zero]; rfl
  · kernel_rfl
  · kernel_rfl
  · kernel_rfl
  · exact fun _ _ _ h => h
  · refine Or.inl ⟨by rfl, ?_⟩
    intro w' hSw
    (try dsimp only at hSw)
    go_simp
    all_goals (with_reducible rfl)
  · assumption
  try simp only [Act.put, List.setIfInBounds_toArray, List.set_cons_zero, List.set_cons_succ]
  refine wpAnyH_take (i := 7) (oi := ?_) (v := ?_) ?_ ?_ ?_ ?_ ?_ ?_ ?_ ?_
  rotate_left 2
  · simp only [List.getElem?_toArray, List.getElem?_cons_succ, List.getElem?_cons_zero]; rfl
  · kernel_rfl
  · kernel_rfl
  · kernel_rfl
  · exact fun _ _ _ h => h
  · refine Or.inl ⟨by rfl, ?_⟩
    intro w' hSw
    (try dsimp only at hSw)
    go_simp
    all_goals (with_reducible rfl)
  · assumption
  try simp only [Act.put, List.setIfInBounds_toArray, List.set_cons_zero, List.set_cons_succ]
  refine wpAnyH_take (i := 8) (oi := ?_) (v := ?_) ?_ ?_ ?_ ?_ ?_ ?_ ?_ ?_
  rotate_left 2
  · simp only [List.getElem?_toArray, List.getElem?_cons_succ, List.getElem?_cons_zero]; rfl
  · kernel_rfl
  · kernel_rfl
  · kernel_rfl
  · exact fun _ _ _ h => h
  · refine Or.inl ⟨by rfl, ?_⟩
    intro w' hSw
    (try dsimp only at hSw)
    go_simp
    all_goals (with_reducible rfl)
  · assumption
  try simp only [Act.put, List.setIfInBounds_toArray, List.set_cons_zero, List.set_cons_succ]
  refine wpAnyH_take (i := 9) (oi := ?_) (v := ?_) ?_ ?_ ?_ ?_ ?_ ?_ ?_ ?_
  rotate_left 2
  · simp only [List.getElem?_toArray, List.getElem?_cons_succ, List.getElem?_cons_zero]; rfl
  · kernel_rfl
  · kernel_rfl
  · kernel_rfl
  · exact fun _ _ _ h => h
  · refine Or.inl ⟨by rfl, ?_⟩
    intro w' hSw
    (try dsimp only at hSw)
    go_simp
    all_goals (with_reducible rfl)
  · assumption
  try simp only [Act.put, List.setIfInBounds_toArray, List.set_cons_zero, List.set_cons_succ]
  refine wpAnyH_take (i := 10) (oi := ?_) (v := ?_) ?_ ?_ ?_ ?_ ?_ ?_ ?_ ?_
  rotate_left 2
  · simp only [List.getElem?_toArray, List.getElem?_cons_succ, List.getElem?_cons_zero]; rfl
  · kernel_rfl
  · kernel_rfl
  · kernel_rfl
  · exact fun _ _ _ h => h
  · refine Or.inl ⟨by rfl, ?_⟩
    intro w' hSw
    (try dsimp only at hSw)
    go_simp
    all_goals (with_reducible rfl)
  · assumption
  try simp only [Act.put, List.setIfInBounds_toArray, List.set_cons_zero, List.set_cons_succ]
  refine wpAnyH_take (i := 11) (oi := ?_) (v := ?_) ?_ ?_ ?_ ?_ ?_ ?_ ?_ ?_
  rotate_left 2
  · simp only [List.getElem?_toArray, List.getElem?_cons_succ, List.getElem?_cons_zero]; rfl
  · kernel_rfl
  · kernel_rfl
  · kernel_rfl
  · exact fun _ _ _ h => h
  · refine Or.inl ⟨by rfl, ?_⟩
    intro w' hSw
    (try dsimp only at hSw)
    go_simp
    all_goals (with_reducible rfl)
  · assumption
  try simp only [Act.put, List.setIfInBounds_toArray, List.set_cons_zero, List.set_cons_succ]
  refine wpAnyH_take (i := 12) (oi := ?_) (v := ?_) ?_ ?_ ?_ ?_ ?_ ?_ ?_ ?_
  rotate_left 2
  · simp only [List.getElem?_toArray, List.getElem?_cons_succ, List.getElem?_cons_zero]; rfl
  · kernel_rfl
  · kernel_rfl
  · kernel_rfl
  · exact fun _ _ _ h => h
  · refine Or.inl ⟨by rfl, ?_⟩
    intro w' hSw
    (try dsimp only at hSw)
    go_simp
    all_goals (with_reducible rfl)
  · assumption
  try simp only [Act.put, List.setIfInBounds_toArray, List.set_cons_zero, List.set_cons_succ]
  refine wpAnyH_take (i := 13) (oi := ?_) (v := ?_) ?_ ?_ ?_ ?_ ?_ ?_ ?_ ?_
  rotate_left 2
  · simp only [List.getElem?_toArray, List.getElem?_cons_succ, List.getElem?_cons_zero]; rfl
  · kernel_rfl
  · kernel_rfl
  · kernel_rfl
  · exact fun _ _ _ h => h
  · refine Or.inl ⟨by rfl, ?_⟩
    intro w' hSw
    (try dsimp only at hSw)
    go_simp
    all_goals (with_reducible rfl)
  · assumption
  try simp only [Act.put, List.setIfInBounds_toArray, List.set_cons_zero, List.set_cons_succ]
  refine wpAnyH_take (i := 14) (oi := ?_) (v := ?_) ?_ ?_ ?_ ?_ ?_ ?_ ?_ ?_
  rotate_left 2
  · simp only [List.getElem?_toArray, List.getElem?_cons_succ, List.getElem?_cons_zero]; rfl
  · kernel_rfl
  · kernel_rfl
  · kernel_rfl
  · exact fun _ _ _ h => h
  · refine Or.inl ⟨by rfl, ?_⟩
    intro w' hSw
    (try dsimp only at hSw)
    go_simp
    all_goals (with_reducible rfl)
  · assumption
  try simp only [Act.put, List.setIfInBounds_toArray, List.set_cons_zero, List.set_cons_succ]
  refine wpAnyH_take (i := 15) (oi := ?_) (v := ?_) ?_ ?_ ?_ ?_ ?_ ?_ ?_ ?_
  rotate_left 2
  · simp only [List.getElem?_toArray, List.getElem?_cons_succ, List.getElem?_cons_zero]; rfl
  · kernel_rfl
  · kernel_rfl
  · kernel_rfl
  · exact fun _ _ _ h => h
  · refine Or.inl ⟨by rfl, ?_⟩
    intro w' hSw
    (try dsimp only at hSw)
    go_simp
    all_goals (with_reducible rfl)
  · assumption
  try simp only [Act.put, List.setIfInBounds_toArray, List.set_cons_zero, List.set_cons_succ]
  refine wpAnyH_take (i := 16) (oi := ?_) (v := ?_) ?_ ?_ ?_ ?_ ?_ ?_ ?_ ?_
  rotate_left 2
  · simp only [List.getElem?_toArray, List.getElem?_cons_succ, List.getElem?_cons_zero]; rfl
  · kernel_rfl
  · kernel_rfl
  · kernel_rfl
  · exact fun _ _ _ h => h
  · refine Or.inl ⟨by rfl, ?_⟩
    intro w' hSw
    (try dsimp only at hSw)
    go_simp
    all_goals (with_reducible rfl)
  · assumption
  try simp only [Act.put, List.setIfInBounds_toArray, List.set_cons_zero, List.set_cons_succ]
  refine wpAnyH_take (i := 17) (oi := ?_) (v := ?_) ?_ ?_ ?_ ?_ ?_ ?_ ?_ ?_
  rotate_left 2
  · simp only [List.getElem?_toArray, List.getElem?_cons_succ, List.getElem?_cons_zero]; rfl
  · kernel_rfl
  · kernel_rfl
  · kernel_rfl
  · exact fun _ _ _ h => h
  · refine Or.inl ⟨by rfl, ?_⟩
    intro w' hSw
    (try dsimp only at hSw)
    go_simp
    all_goals (with_reducible rfl)
  · assumption
  try simp only [Act.put, List.setIfInBounds_toArray, List.set_cons_zero, List.set_cons_succ]
  refine wpAnyH_take (i := 18) (oi := ?_) (v := ?_) ?_ ?_ ?_ ?_ ?_ ?_ ?_ ?_
  rotate_left 2
  · simp only [List.getElem?_toArray, List.getElem?_cons_succ, List.getElem?_cons_zero]; rfl
  · kernel_rfl
  · kernel_rfl
  · kernel_rfl
  · exact fun _ _ _ h => h
  · refine Or.inl ⟨by rfl, ?_⟩
    intro w' hSw
    (try dsimp only at hSw)
    go_simp
    all_goals (with_reducible rfl)
  · assumption
  try simp only [Act.put, List.setIfInBounds_toArray, List.set_cons_zero, List.set_cons_succ]
  refine wpAnyH_done (by kernel_rfl) ?_ _
  clear hHeld hS
  go_wp2
  go_ret3
  exact ⟨rfl, below_draws B1.out 1⟩
end
end Go.Proofs.YtbgcpljekcagiaaGreat
/- The contracts of layer 8 (summary): drop, Clear. -/
namespace Go.Proofs.YtbgcpljekcagiaaGreat
set_option linter.unusedSimpArgs false
set_option linter.unusedVariables false
set_option maxRecDepth 100000
open Go.ChangeShapes Go.WideShapes Go.ChangeAt Go.RowKit
section
variable {w W : World} {Q : SmN} {L M : List Ent} {tot : Int} {σ : KSt}
/-- what drop leaves. -/
def KSt.off (σ : KSt) (p : Nat) : KSt := ⟨σ.fl ++ [p], fun j => if j = p then none else σ.K j⟩
theorem SmOK.drop {n : Nat} {x : Ent} (h : SmOK n (M ++ [x]) tot σ) : SmOK n M tot (σ.off x.p) := by
  have hlast : (M ++ [x])[M.length]? = some x := by simp
  have hne : ∀ y ∈ M, y.p ≠ x.p := fun y hy => by
    obtain ⟨i, hi, e⟩ := List.mem_iff_getElem.1 hy
    exact h.other (i := i) (j := M.length) (by rw [List.getElem?_append_left hi, List.getElem?_eq_getElem hi, e]) hlast (by omega)
  refine ⟨fun y hy => ?_, fun i s hi => ?_, ?_, ?_, fun y hy => h.bd y (List.mem_append_left _ hy), h.tb⟩
  · show (if y.p = x.p then none else σ.K y.p) = some y.k
    rw [if_neg (hne y hy)]
    exact h.key y (List.mem_append_left _ hy)
  · have hi : (if i = x.p then none else σ.K i) = some s := hi
    by_cases e : i = x.p
    · rw [if_pos e] at hi; cases hi
    · rw [if_neg e] at hi
      obtain ⟨y, hy, hp⟩ := h.has i s hi
      rcases List.mem_append.1 hy with h1 | h1
      · exact ⟨y, h1, hp⟩
      · rw [List.mem_singleton.1 h1] at hp; exact absurd hp.symm e
  · have := h.nd
    rw [List.map_append] at this
    exact (List.nodup_append.1 this).1
  · have := h.cnt
    rw [List.length_append] at this
    show M.length + (σ.fl ++ [x.p]).length = n
    rw [List.length_append]
    simp only [List.length_singleton] at this ⊢
    omega
set_option maxHeartbeats 1000000 in
theorem smdrop_any (x : Ent) (w : World) (h : SmAt w Q (M ++ [x]) tot σ) : Calls Tryz.prog 124 #[.pointer (some ⟨Q.s, 0, none⟩)] w fun e w' => e = .returned (.tuple #[]) ∧ SmAt w' Q M tot (σ.off x.p) ∧ Fr Q.F w w' := by
  obtain ⟨m, hm⟩ : ∃ m, m = M.length := ⟨_, rfl⟩
  have hlast : (M ++ [x])[m]? = some x := by rw [hm]; simp
  obtain ⟨m1, hm1⟩ : ∃ k, k = m + 1 := ⟨_, rfl⟩
  have hlen : (M ++ [x]).length = m1 := by rw [hm1, hm]; simp
  have hu := h.ix.uni
  have hx : x ∈ M ++ [x] := by simp
  have hkey := h.ok.key x hx
  have hsz := hu.2.1 x.p x.k hkey
  have hle := h.le
  have hn := h.n1
  rw [hlen] at hle
  have HH := Lib.hid h
  have CK := Lib.hid (fun wx (hb : Below w.heap.size w wx) => key_yes x.p x.k wx ((h.ix.keep hb).ks) hsz.1 hkey)
  have CR := Lib.hid (fun wx (hb : Below w.heap.size w wx) => ixremove_any x.k (by have := hsz.2; unfold maxLen; omega) wx (h.ix.keep hb))
  have hpos := h.ok.pos ⟨hu.1, hu.2.1⟩ hx
  have hdel : σ.del Q.N.n x.k = (σ.off x.p, some x.p) := by unfold KSt.del; rw [hpos]; rfl
  rw [hdel] at CR
  have HL := Lib.hid hlast
  have HM := Lib.hid (And.intro hm hlen)
  have k := h.hs.rd
  rw [hlen] at k
  have e1 : IntKind.i64.wrap ((m1 : Int) - 1) = (m : Int) := by rw [IntKind.wrap_i64]; omega
  have t1 : (0 : Int) ≤ (m : Int) := by omega
  have t2 : (m : Int) < (m1 : Int) := by omega
  have HLE := Lib.hid (show m + 1 ≤ Q.N.n ∧ 1 ≤ Q.N.n ∧ Q.N.n ≤ 64 by omega)
  clear h hu hx hkey hsz hle hn hpos hdel hlast hm hlen hm1
  go_enter Tryz.func124, Tryz.ntmps124
  go_upto_region 1 with (fail)
  clear k
  have HS := Lib.hid (show ∀ wx, Below w.heap.size w wx → (fun w' : World => (∀ i, w'.cell? ⟨Q.s, i, none⟩ = (smC Q m1 tot)[i]?) ∧ w'.cell? ⟨Q.g, m * 3 + 2, none⟩ = some (.int .i64 (x.p : Int))) wx from fun wx hb => ⟨by have := (HH.out.keep hb).hs.rd; rw [HM.out.2] at this; exact this, ((HH.out.keep hb).cell HL.out).2.2⟩)
  have B1 := Lib.hid (show Below w.heap.size w w.drew from below_draws (Below.refl _ _) 1)
  refine wp_region_held_drew (S := (fun w' : World => (∀ i, w'.cell? ⟨Q.s, i, none⟩ = (smC Q m1 tot)[i]?) ∧ w'.cell? ⟨Q.g, m * 3 + 2, none⟩ = some (.int .i64 (x.p : Int)))) (by kernel_rfl) (HS.out _ B1.out) (fun hHeld => ?_)
  refine wpAnyH_take (i := 0) (oi := ?_) (v := ?_) ?_ ?_ ?_ ?_ ?_ ?_ ?_ ?_
  rotate_left 2
  · simp only [List.getElem?_toArray, List.getElem?_cons_succ, List.getElem?_cons_zero]; rfl
  · kernel_rfl
  · kernel_rfl
  · kernel_rfl
  · exact fun _ _ _ h => h
  · refine Or.inl ⟨by rfl, ?_⟩
    intro w' hSw
    (try dsimp only at hSw)
    go_simp
    all_goals (with_reducible rfl)
  · assumption
  try simp only [Act.put, List.setIfInBounds_toArray, List.set_cons_zero, List.set_cons_succ]
  refine wpAnyH_take (i := 1) (oi := ?_) (v := ?_) ?_ ?_ ?_ ?_ ?_ ?_ ?_ ?_
  rotate_left 2
  · simp only [List.getElem?_toArray, List.getElem?_cons_succ, List.getElem?_cons_zero]; rfl
  · kernel_rfl
  · kernel_rfl
  · kernel_rfl
  · exact fun _ _ _ h => h
  · refine Or.inl ⟨by rfl, ?_⟩
    intro w' hSw
    (try dsimp only at hSw)
    go_simp
    all_goals (with_reducible rfl)
  · assumption
  try simp only [Act.put, List.setIfInBounds_toArray, List.set_cons_zero, List.set_cons_succ]
  refine wpAnyH_take (i := 2) (oi := ?_) (v := ?_) ?_ ?_ ?_ ?_ ?_ ?_ ?_ ?_
  rotate_left 2
  · simp only [List.getElem?_toArray, List.getElem?_cons_succ, List.getElem?_cons_zero]; rfl
  · kernel_rfl
  · kernel_rfl
  · kernel_rfl
  · exact fun _ _ _ h => h
  · refine Or.inl ⟨by rfl, ?_⟩
    intro w' hSw
    (try dsimp only at hSw)
    go_simp
    all_goals (with_reducible rfl)
  · assumption
  try simp only [Act.put, List.setIfInBounds_toArray, List.set_cons_zero, List.set_cons_succ]
  refine wpAnyH_take (i := 3) (oi := ?_) (v := ?_) ?_ ?_ ?_ ?_ ?_ ?_ ?_ ?_
  rotate_left 2
  · simp only [List.getElem?_toArray, List.getElem?_cons_succ, List.getElem?_cons_zero]; rfl
  · kernel_rfl
  · kernel_rfl
  · kernel_rfl
  · exact fun _ _ _ h => h
  · refine Or.inl ⟨by rfl, ?_⟩
    intro w' hSw
    (try dsimp only at hSw)
    go_simp
    all_goals (with_reducible rfl)
  · assumption
  try simp only [Act.put, List.setIfInBounds_toArray, List.set_cons_zero, List.set_cons_succ]
  refine wpAnyH_take (i := 4) (oi := ?_) (v := ?_) ?_ ?_ ?_ ?_ ?_ ?_ ?_ ?_
  rotate_left 2
  · simp only [List.getElem?_toArray, List.getElem?_cons_succ, List.getElem?_cons_zero]; rfl
  · kernel_rfl
  · kernel_rfl
  · kernel_rfl
  · exact fun _ _ _ h => h
  · refine Or.inl ⟨by rfl, ?_⟩
    intro w' hSw
    (try dsimp only at hSw)
    go_simp
    all_goals (with_reducible rfl)
  · assumption
  try simp only [Act.put, List.setIfInBounds_toArray, List.set_cons_zero, List.set_cons_succ]
  refine wpAnyH_take (i := 5) (oi := ?_) (v := ?_) ?_ ?_ ?_ ?_ ?_ ?_ ?_ ?_
  rotate_left 2
  · simp only [List.getElem?_toArray, List.getElem?_cons_succ, List.getElem?_cons_zero]; rfl
  · kernel_rfl
  · kernel_rfl
  · kernel_rfl
  · exact fun _ _ _ h => h
  · refine Or.inl ⟨by rfl, ?_⟩
    intro w' hSw
    (try dsimp only at hSw)
    go_simp
    all_goals (with_reducible rfl)
  · assumption
  try simp only [Act.put, List.setIfInBounds_toArray, List.set_cons_zero, List.set_cons_succ]
  refine wpAnyH_take (i := 6) (oi := ?_) (v := ?_) ?_ ?_ ?_ ?_ ?_ ?_ ?_ ?_
  rotate_left 2
  · simp only [List.getElem?_toArray, List.getElem?_cons_succ, List.getElem?_cons_zero]; rfl
  · kernel_rfl
  · kernel_rfl
  · kernel_rfl
  · exact fun _ _ _ h => h
  · refine Or.inl ⟨by rfl, ?_⟩
    intro w' hSw
    (try dsimp only at hSw)
    go_simp
    all_goals (with_reducible rfl)
  · assumption
  try simp only [Act.put, List.setIfInBounds_toArray, List.set_cons_zero, List.set_cons_succ]
  refine wpAnyH_take (i := 7) (oi := ?_) (v := ?_) ?_ ?_ ?_ ?_ ?_ ?_ ?_ ?_
  rotate_left 2
  · simp only [List.getElem?_toArray, List.getElem?_cons_succ, List.getElem?_cons_zero]; rfl
  · kernel_rfl
  · kernel_rfl
  · kernel_rfl
  · exact fun _ _ _ h => h
  · refine Or.inl ⟨by rfl, ?_⟩
    intro w' hSw
    (try dsimp only at hSw)
    go_simp
    all_goals (with_reducible rfl)
  · assumption
  try simp only [Act.put, List.setIfInBounds_toArray, List.set_cons_zero, List.set_cons_succ]
  refine wpAnyH_take (i := 8) (oi := ?_) (v := ?_) ?_ ?_ ?_ ?_ ?_ ?_ ?_ ?_
  rotate_left 2
  · simp only [List.getElem?_toArray, List.getElem?_cons_succ, List.getElem?_cons_zero]; rfl
  · kernel_rfl
  · kernel_rfl
  · kernel_rfl
  · exact fun _ _ _ h => h
  · refine Or.inl ⟨by rfl, ?_⟩
    intro w' hSw
    (try dsimp only at hSw)
    go_simp
    all_goals (with_reducible rfl)
  · assumption
  try simp only [Act.put, List.setIfInBounds_toArray, List.set_cons_zero, List.set_cons_succ]
  refine wpAnyH_take (i := 9) (oi := ?_) (v := ?_) ?_ ?_ ?_ ?_ ?_ ?_ ?_ ?_
  rotate_left 2
  · simp only [List.getElem?_toArray, List.getElem?_cons_succ, List.getElem?_cons_zero]; rfl
  · kernel_rfl
  · kernel_rfl
  · kernel_rfl
  · exact fun _ _ _ h => h
  · refine Or.inl ⟨by rfl, ?_⟩
    intro w' hSw
    (try dsimp only at hSw)
    go_simp
    all_goals (with_reducible rfl)
  · assumption
  try simp only [Act.put, List.setIfInBounds_toArray, List.set_cons_zero, List.set_cons_succ]
  refine wpAnyH_take (i := 10) (oi := ?_) (v := ?_) ?_ ?_ ?_ ?_ ?_ ?_ ?_ ?_
  rotate_left 2
  · simp only [List.getElem?_toArray, List.getElem?_cons_succ, List.getElem?_cons_zero]; rfl
  · kernel_rfl
  · kernel_rfl
  · kernel_rfl
  · exact fun _ _ _ h => h
  · refine Or.inl ⟨by rfl, ?_⟩
    intro w' hSw
    (try dsimp only at hSw)
    go_simp
    all_goals (with_reducible rfl)
  · assumption
  try simp only [Act.put, List.setIfInBounds_toArray, List.set_cons_zero, List.set_cons_succ]
  refine wpAnyH_take (i := 11) (oi := ?_) (v := ?_) ?_ ?_ ?_ ?_ ?_ ?_ ?_ ?_
  rotate_left 2
  · simp only [List.getElem?_toArray, List.getElem?_cons_succ, List.getElem?_cons_zero]; rfl
  · kernel_rfl
  · kernel_rfl
  · kernel_rfl
  · exact fun _ _ _ h => h
  · refine Or.inl ⟨by rfl, ?_⟩
    intro w' hSw
    (try dsimp only at hSw)
    go_simp
    all_goals (with_reducible rfl)
  · assumption
  try simp only [Act.put, List.setIfInBounds_toArray, List.set_cons_zero, List.set_cons_succ]
  refine wpAnyH_ready (rs := [12]) (by kernel_rfl) (by simp) ?_
  refine AllReadyH.cons (o := ?_) ?_ ?_ ?_
  rotate_left 1
  · simp only [List.getElem?_toArray, List.getElem?_cons_succ, List.getElem?_cons_zero]; rfl
  rotate_left 1
  · exact AllReadyH.nil
  intro K hK
  go_simp
  ((with_reducible refine (CK.out w.drew B1.out).mono ?_); rintro e w2 ⟨rfl, b2⟩; have B2 := Lib.hid (G.below_on B1.out b2); clear b2)
  refine hK.out _ _ (HS.out _ B2.out) (fun hHeld => ?_)
  clear hK K
  try simp only [Act.put, List.setIfInBounds_toArray, List.set_cons_zero, List.set_cons_succ]
  refine wpAnyH_take (i := 13) (oi := ?_) (v := ?_) ?_ ?_ ?_ ?_ ?_ ?_ ?_ ?_
  rotate_left 2
  · simp only [List.getElem?_toArray, List.getElem?_cons_succ, List.getElem?_cons_zero]; rfl
  · kernel_rfl
  · kernel_rfl
  · kernel_rfl
  · exact fun _ _ _ h => h
  · refine Or.inl ⟨by rfl, ?_⟩
    intro w' hSw
    (try dsimp only at hSw)
    go_simp
    all_goals (with_reducible rfl)
  · assumption
  try simp only [Act.put, List.setIfInBounds_toArray, List.set_cons_zero, List.set_cons_succ]
  refine wpAnyH_take (i := 14) (oi := ?_) (v := ?_) ?_ ?_ ?_ ?_ ?_ ?_ ?_ ?_
  rotate_left 2
  · simp only [List.getElem?_toArray, List.getElem?_cons_succ, List.getElem?_cons_zero]; rfl
  · kernel_rfl
  · kernel_rfl
  · kernel_rfl
  · exact fun _ _ _ h => h
  · refine Or.inl ⟨by rfl, ?_⟩
    intro w' hSw
    (try dsimp only at hSw)
    go_simp
    all_goals (with_reducible rfl)
  · assumption
  try simp only [Act.put, List.setIfInBounds_toArray, List.set_cons_zero, List.set_cons_succ]
  refine wpAnyH_take (i := 15) (oi := ?_) (v := ?_) ?_ ?_ ?_ ?_ ?_ ?_ ?_ ?_
  rotate_left 2
  · simp only [List.getElem?_toArray, List.getElem?_cons_succ, List.getElem?_cons_zero]; rfl
  · kernel_rfl
  · kernel_rfl
  · kernel_rfl
  · exact fun _ _ _ h => h
  · refine Or.inl ⟨by rfl, ?_⟩
    intro w' hSw
    (try dsimp only at hSw)
    go_simp
    all_goals (with_reducible rfl)
  · assumption
  try simp only [Act.put, List.setIfInBounds_toArray, List.set_cons_zero, List.set_cons_succ]
  refine wpAnyH_take (i := 16) (oi := ?_) (v := ?_) ?_ ?_ ?_ ?_ ?_ ?_ ?_ ?_
  rotate_left 2
  · simp only [List.getElem?_toArray, List.getElem?_cons_succ, List.getElem?_cons_zero]; rfl
  · kernel_rfl
  · kernel_rfl
  · kernel_rfl
  · exact fun _ _ _ h => h
  · refine Or.inl ⟨by rfl, ?_⟩
    intro w' hSw
    (try dsimp only at hSw)
    go_simp
    all_goals (with_reducible rfl)
  · assumption
  try simp only [Act.put, List.setIfInBounds_toArray, List.set_cons_zero, List.set_cons_succ]
  refine wpAnyH_take (i := 17) (oi := ?_) (v := ?_) ?_ ?_ ?_ ?_ ?_ ?_ ?_ ?_
  rotate_left 2
  · simp only [List.getElem?_toArray, List.getElem?_cons_succ, List.getElem?_cons_zero]; rfl
  · kernel_rfl
  · kernel_rfl
  · kernel_rfl
  · exact fun _ _ _ h => h
  · refine Or.inl ⟨by rfl, ?_⟩
    intro w' hSw
    (try dsimp only at hSw)
    go_simp
    all_goals (with_reducible rfl)
  · assumption
  try simp only [Act.put, List.setIfInBounds_toArray, List.set_cons_zero, List.set_cons_succ]
  refine wpAnyH_done (by kernel_rfl) ?_ _
  have k := hHeld.1
  clear hHeld
  go_upto_region 3 with (go_at_call 144; refine (show Calls Tryz.prog 144 #[.pointer (some ⟨Q.N.x, 0, none⟩), .string x.k] w2 (fun e w' => e = .returned (.int .i64 (x.p : Int)) ∧ IdxAt w' Q.N (σ.off x.p) ∧ Fr Q.N.F w2 w') from CR.out _ B2.out).mono ?_; rintro e w3 ⟨rfl, i3, f3⟩; have I3 := Lib.hid i3; have F3 := Lib.hid f3; clear i3 f3)
  clear k
  have H2 := Lib.hid (HH.out.keep B2.out)
  have h3 := H2.out.hs.fr F3.out (fun hF => (H2.out.ne.2 _ (Or.inl hF)).2 rfl)
  rw [HM.out.2] at h3
  have H3 := Lib.hid h3
  have k := h3.rd
  have kw := h3.wr
  obtain ⟨w4, e4, r4, f4, s4⟩ := G.box_set h3 2 (.slice (some ⟨Q.g, 0, none⟩) m Q.N.n) (smC Q m tot) rfl
  have R4 := Lib.hid r4
  have F4 := Lib.hid f4
  have t3 : (m : Int) ≤ (Q.N.n : Int) := by have := HLE.out.1; omega
  have hmn : m ≤ Q.N.n := by have := HLE.out.1; omega
  clear h3 r4 f4 s4
  go_wp2
  go_end0
  have hh := H2.out
  obtain ⟨R, hg, hl⟩ := hh.hg
  refine ⟨rfl, ⟨by rw [← HM.out.1]; exact R4.out, ⟨x :: R, ?_, ?_⟩, I3.out.fr F4.out (fun k hk e => (hh.ne.2 k hk).2 e), hh.n1, hh.ne, hh.ok.drop⟩, ?_⟩
  · have := (hg.fr F3.out (fun hF => (hh.ne.2 _ (Or.inl hF)).1 rfl)).fr F4.out (fun e => hh.ne.1 e.symm)
    rw [List.append_assoc] at this
    exact this
  · rw [List.append_assoc] at hl
    exact hl
  · exact ((Fr.of_below B2.out).trans (F3.out.mono (fun k hk => Or.inl hk))).trans (F4.out.mono (fun k hk => Or.inr (Or.inl hk)))
end
end Go.Proofs.YtbgcpljekcagiaaGreat
/- The contracts of layer 8 (summary): Clear. -/
namespace Go.Proofs.YtbgcpljekcagiaaGreat
set_option linter.unusedSimpArgs false
set_option linter.unusedVariables false
set_option maxRecDepth 100000
open Go.ChangeShapes Go.WideShapes Go.ChangeAt Go.RowKit
section
variable {w W : World} {Q : SmN} {L M : List Ent} {tot : Int} {σ : KSt}
theorem smclear_any (w : World) (h : SmAt w Q L tot σ) : Calls Tryz.prog 94 #[.pointer (some ⟨Q.s, 0, none⟩)] w fun e w' => e = .returned (.tuple #[]) ∧ (∃ σ', SmAt w' Q [] 0 σ') ∧ Fr Q.F w w' := by
  have H0 := Lib.hid h
  clear h
  go_enter Tryz.func94, Tryz.ntmps94
  go_upto_region 1 with (fail)
  go_loopg [] L.length (fun kk wr => ∃ (M : List Ent) (ρ : KSt), Hid (kk = M.length) ∧ Hid (SmAt wr Q M tot ρ) ∧ Hid (Fr Q.F w wr))
  case atStart => exact ⟨L, σ, Lib.hid rfl, H0, Lib.hid (Fr.refl _ _)⟩
  case round =>
    obtain ⟨M, ρ, HK, HM, HF⟩ := hrel
    have k := HM.out.hs.rd
    rcases List.eq_nil_or_concat M with e | ⟨N, x, e⟩
    · rw [e] at k HM
      have kw := HM.out.hs.wr
      obtain ⟨w4, e4, r4, f4, s4⟩ := G.box_set HM.out.hs 3 (.int .i64 0) (smC Q 0 0) rfl
      have R4 := Lib.hid r4
      have F4 := Lib.hid f4
      clear r4 f4 s4
      go_wp2
      go_end0
      have hh := HM.out
      obtain ⟨R, hg, hl⟩ := hh.hg
      refine ⟨rfl, ⟨ρ, R4.out, ⟨R, hg.fr F4.out (fun e => hh.ne.1 e.symm), hl⟩, hh.ix.fr F4.out (fun k hk e => (hh.ne.2 k hk).2 e), hh.n1, hh.ne, ⟨(fun x hx => by cases hx), hh.ok.has, List.nodup_nil, hh.ok.cnt, (fun x hx => by cases hx), by omega⟩⟩, HF.out.trans (F4.out.mono (fun k hk => Or.inr (Or.inl hk)))⟩
    · rw [List.concat_eq_append] at e
      have hlen : M.length = N.length + 1 := by rw [e]; simp
      rw [hlen] at k
      rw [e] at HM
      have HLEN := Lib.hid hlen
      have CD := Lib.hid (smdrop_any x wr HM.out)
      have t1 : (0 : Int) < ((N.length + 1 : Nat) : Int) := by omega
      clear e hlen
      go_wp2_with (go_at_call 124; ((with_reducible refine CD.out.mono ?_); rintro e w3 ⟨rfl, h3, f3⟩; have H3 := Lib.hid h3; have F3 := Lib.hid (HF.out.trans f3); clear h3 f3))
      go_roundg N.length
      case measure => have := HK.out; have := HLEN.out; omega
      case rel => exact ⟨N, _, Lib.hid rfl, H3, F3⟩
end
end Go.Proofs.YtbgcpljekcagiaaGreat
/- The contracts of layer 8 (summary): rise. -/
namespace Go.Proofs.YtbgcpljekcagiaaGreat
set_option linter.unusedSimpArgs false
set_option linter.unusedVariables false
set_option maxRecDepth 100000
open Go.ChangeShapes Go.WideShapes Go.ChangeAt Go.RowKit
/-- one goes ahead of all whose counts are less. -/
def riseE : List Ent → Nat → List Ent
  | L, 0 => L
  | L, i + 1 => match L[i]?, L[i + 1]? with
    | some y, some x => if y.n < x.n then riseE ((L.set i x).set (i + 1) y) i else L
    | _, _ => L
section
variable {w W : World} {Q : SmN} {L M : List Ent} {tot : Int} {σ : KSt}
theorem swap_perm {L : List Ent} {i : Nat} {x y : Ent} (hy : L[i]? = some y) (hx : L[i + 1]? = some x) : ((L.set i x).set (i + 1) y).Perm L := by
  obtain ⟨l1, e1⟩ := List.getElem?_eq_some_iff.1 hy
  obtain ⟨l2, e2⟩ := List.getElem?_eq_some_iff.1 hx
  have hs : L = L.take i ++ y :: x :: L.drop (i + 2) := by
    conv => lhs; rw [← List.take_append_drop i L, List.drop_eq_getElem_cons l1, List.drop_eq_getElem_cons l2, e1, e2]
  have hlen : (L.take i).length = i := by rw [List.length_take]; omega
  have h2 : (L.set i x).set (i + 1) y = L.take i ++ x :: y :: L.drop (i + 2) := by
    conv => lhs; rw [hs]
    rw [List.set_append_right _ _ (by omega), hlen, Nat.sub_self, List.set_cons_zero, List.set_append_right _ _ (by omega), hlen, show i + 1 - i = 1 by omega]
    rfl
  rw [h2]
  conv => rhs; rw [hs]
  exact List.Perm.append_left _ (List.Perm.swap _ _ _)
theorem SmOK.perm {n : Nat} (h : SmOK n L tot σ) (hp : M.Perm L) : SmOK n M tot σ :=
  ⟨fun x hx => h.key x (hp.mem_iff.1 hx), fun i s hi => by
    obtain ⟨x, hx, e⟩ := h.has i s hi
    exact ⟨x, hp.mem_iff.2 hx, e⟩, (hp.map Ent.p).nodup_iff.2 h.nd, by rw [hp.length_eq]; exact h.cnt, fun x hx => h.bd x (hp.mem_iff.1 hx), h.tb⟩
set_option maxRecDepth 100000 in
set_option maxHeartbeats 4000000 in
theorem smrise_any (i : Nat) (w : World) (h : SmAt w Q L tot σ) (hi : i < L.length) : Calls Tryz.prog 97 #[.pointer (some ⟨Q.s, 0, none⟩), .int .i64 (i : Int)] w fun e w' => e = .returned (.tuple #[]) ∧ SmAt w' Q (riseE L i) tot σ ∧ Fr Q.F w w' := by
  have H0 := Lib.hid h
  have HI := Lib.hid hi
  obtain ⟨T, hT⟩ : ∃ T, T = riseE L i := ⟨_, rfl⟩
  rw [← hT]
  have HT := Lib.hid hT
  clear h hT hi
  go_enter Tryz.func97, Tryz.ntmps97
  go_wp2
  go_loopg [1] i (fun kk si wr => ∃ (j : Nat) (M : List Ent), Hid (kk = j) ∧ si = .int .i64 (j : Int) ∧ Hid (SmAt wr Q M tot σ) ∧ Hid (Fr Q.F w wr) ∧ Hid (j < M.length ∧ T = riseE M j))
  case atStart => exact ⟨i, L, Lib.hid rfl, rfl, H0, Lib.hid (Fr.refl _ _), Lib.hid ⟨HI.out, HT.out⟩⟩
  case round =>
    obtain ⟨j, M, HK, rfl, HM, HF, HJ⟩ := hrel
    obtain ⟨m, hm⟩ : ∃ m, m = M.length := ⟨_, rfl⟩
    have HMM := Lib.hid hm
    have hle := HM.out.le
    have hn := HM.out.n1
    have hj := HJ.out.1
    have HS := Lib.hid (show ∀ wx, Below wr.heap.size wr wx → (fun w' : World => (∀ i, w'.cell? ⟨Q.s, i, none⟩ = (smC Q m tot)[i]?)) wx from fun wx hb => by rw [hm]; exact (HM.out.keep hb).hs.rd)
    have B1 := Lib.hid (show Below wr.heap.size wr wr.drew from below_draws (Below.refl _ _) 1)
    cases j with
    | zero =>
      have t1 : decide ((0 : Int) < ((0 : Nat) : Int)) = false := by decide
      clear hm hle hn hj
      go_upto_region 0 with (fail)
      refine wp_region_held_drew (S := (fun w' : World => (∀ i, w'.cell? ⟨Q.s, i, none⟩ = (smC Q m tot)[i]?))) (by kernel_rfl) (HS.out _ B1.out) (fun hHeld => ?_)
      refine wpAnyH_take (i := 0) (oi := ?_) (v := ?_) ?_ ?_ ?_ ?_ ?_ ?_ ?_ ?_
      rotate_left 2
      · simp only [List.getElem?_toArray, List.getElem?_cons_succ, List.getElem?_cons_zero]; rfl
      · kernel_rfl
      · kernel_rfl
      · kernel_rfl
      · exact fun _ _ _ h => h
      · refine Or.inl ⟨by rfl, ?_⟩
        intro w' hSw
        (try dsimp only at hSw)
        go_simp
        all_goals (with_reducible rfl)
      · assumption
      try simp only [Act.put, List.setIfInBounds_toArray, List.set_cons_zero, List.set_cons_succ]
      refine wpAnyH_take (i := 1) (oi := ?_) (v := ?_) ?_ ?_ ?_ ?_ ?_ ?_ ?_ ?_
      rotate_left 2
      · simp only [List.getElem?_toArray, List.getElem?_cons_succ, List.getElem?_cons_zero]; rfl
      · kernel_rfl
      · kernel_rfl
      · kernel_rfl
      · exact fun _ _ _ h => h
      · refine Or.inl ⟨by rfl, ?_⟩
        intro w' hSw
        (try dsimp only at hSw)
        go_simp
        all_goals (with_reducible rfl)
      · assumption
      try simp only [Act.put, List.setIfInBounds_toArray, List.set_cons_zero, List.set_cons_succ]
      refine wpAnyH_take (i := 2) (oi := ?_) (v := ?_) ?_ ?_ ?_ ?_ ?_ ?_ ?_ ?_
      rotate_left 2
      · simp only [List.getElem?_toArray, List.getElem?_cons_succ, List.getElem?_cons_zero]; rfl
      · kernel_rfl
      · kernel_rfl
      · kernel_rfl
      · exact fun _ _ _ h => h
      · refine Or.inl ⟨by rfl, ?_⟩
        intro w' hSw
        (try dsimp only at hSw)
        go_simp
        all_goals (with_reducible rfl)
      · assumption
      try simp only [Act.put, List.setIfInBounds_toArray, List.set_cons_zero, List.set_cons_succ]
      refine wpAnyH_take (i := 3) (oi := ?_) (v := undef) ?_ ?_ ?_ ?_ ?_ ?_ ?_ ?_
      rotate_left 1
      · simp only [List.getElem?_toArray, List.getElem?_cons_succ, List.getElem?_cons_zero]; rfl
      · kernel_rfl
      · kernel_rfl
      · kernel_rfl
      · exact fun _ _ _ h => h
      · exact Or.inr ⟨by kernel_rfl, rfl⟩
      · assumption
      try simp only [Act.put, List.setIfInBounds_toArray, List.set_cons_zero, List.set_cons_succ]
      refine wpAnyH_take (i := 4) (oi := ?_) (v := undef) ?_ ?_ ?_ ?_ ?_ ?_ ?_ ?_
      rotate_left 1
      · simp only [List.getElem?_toArray, List.getElem?_cons_succ, List.getElem?_cons_zero]; rfl
      · kernel_rfl
      · kernel_rfl
      · kernel_rfl
      · exact fun _ _ _ h => h
      · exact Or.inr ⟨by kernel_rfl, rfl⟩
      · assumption
      try simp only [Act.put, List.setIfInBounds_toArray, List.set_cons_zero, List.set_cons_succ]
      refine wpAnyH_take (i := 5) (oi := ?_) (v := undef) ?_ ?_ ?_ ?_ ?_ ?_ ?_ ?_
      rotate_left 1
      · simp only [List.getElem?_toArray, List.getElem?_cons_succ, List.getElem?_cons_zero]; rfl
      · kernel_rfl
      · kernel_rfl
      · kernel_rfl
      · exact fun _ _ _ h => h
      · exact Or.inr ⟨by kernel_rfl, rfl⟩
      · assumption
      try simp only [Act.put, List.setIfInBounds_toArray, List.set_cons_zero, List.set_cons_succ]
      refine wpAnyH_take (i := 6) (oi := ?_) (v := undef) ?_ ?_ ?_ ?_ ?_ ?_ ?_ ?_
      rotate_left 1
      · simp only [List.getElem?_toArray, List.getElem?_cons_succ, List.getElem?_cons_zero]; rfl
      · kernel_rfl
      · kernel_rfl
      · kernel_rfl
      · exact fun _ _ _ h => h
      · exact Or.inr ⟨by kernel_rfl, rfl⟩
      · assumption
      try simp only [Act.put, List.setIfInBounds_toArray, List.set_cons_zero, List.set_cons_succ]
      refine wpAnyH_take (i := 7) (oi := ?_) (v := undef) ?_ ?_ ?_ ?_ ?_ ?_ ?_ ?_
      rotate_left 1
      · simp only [List.getElem?_toArray, List.getElem?_cons_succ, List.getElem?_cons_zero]; rfl
      · kernel_rfl
      · kernel_rfl
      · kernel_rfl
      · exact fun _ _ _ h => h
      · exact Or.inr ⟨by kernel_rfl, rfl⟩
      · assumption
      try simp only [Act.put, List.setIfInBounds_toArray, List.set_cons_zero, List.set_cons_succ]
      refine wpAnyH_take (i := 8) (oi := ?_) (v := undef) ?_ ?_ ?_ ?_ ?_ ?_ ?_ ?_
      rotate_left 1
      · simp only [List.getElem?_toArray, List.getElem?_cons_succ, List.getElem?_cons_zero]; rfl
      · kernel_rfl
      · kernel_rfl
      · kernel_rfl
      · exact fun _ _ _ h => h
      · exact Or.inr ⟨by kernel_rfl, rfl⟩
      · assumption
      try simp only [Act.put, List.setIfInBounds_toArray, List.set_cons_zero, List.set_cons_succ]
      refine wpAnyH_take (i := 9) (oi := ?_) (v := undef) ?_ ?_ ?_ ?_ ?_ ?_ ?_ ?_
      rotate_left 1
      · simp only [List.getElem?_toArray, List.getElem?_cons_succ, List.getElem?_cons_zero]; rfl
      · kernel_rfl
      · kernel_rfl
      · kernel_rfl
      · exact fun _ _ _ h => h
      · exact Or.inr ⟨by kernel_rfl, rfl⟩
      · assumption
      try simp only [Act.put, List.setIfInBounds_toArray, List.set_cons_zero, List.set_cons_succ]
      refine wpAnyH_take (i := 10) (oi := ?_) (v := undef) ?_ ?_ ?_ ?_ ?_ ?_ ?_ ?_
      rotate_left 1
      · simp only [List.getElem?_toArray, List.getElem?_cons_succ, List.getElem?_cons_zero]; rfl
      · kernel_rfl
      · kernel_rfl
      · kernel_rfl
      · exact fun _ _ _ h => h
      · exact Or.inr ⟨by kernel_rfl, rfl⟩
      · assumption
      try simp only [Act.put, List.setIfInBounds_toArray, List.set_cons_zero, List.set_cons_succ]
      refine wpAnyH_take (i := 11) (oi := ?_) (v := undef) ?_ ?_ ?_ ?_ ?_ ?_ ?_ ?_
      rotate_left 1
      · simp only [List.getElem?_toArray, List.getElem?_cons_succ, List.getElem?_cons_zero]; rfl
      · kernel_rfl
      · kernel_rfl
      · kernel_rfl
      · exact fun _ _ _ h => h
      · exact Or.inr ⟨by kernel_rfl, rfl⟩
      · assumption
      try simp only [Act.put, List.setIfInBounds_toArray, List.set_cons_zero, List.set_cons_succ]
      refine wpAnyH_take (i := 12) (oi := ?_) (v := undef) ?_ ?_ ?_ ?_ ?_ ?_ ?_ ?_
      rotate_left 1
      · simp only [List.getElem?_toArray, List.getElem?_cons_succ, List.getElem?_cons_zero]; rfl
      · kernel_rfl
      · kernel_rfl
      · kernel_rfl
      · exact fun _ _ _ h => h
      · exact Or.inr ⟨by kernel_rfl, rfl⟩
      · assumption
      try simp only [Act.put, List.setIfInBounds_toArray, List.set_cons_zero, List.set_cons_succ]
      refine wpAnyH_take (i := 13) (oi := ?_) (v := undef) ?_ ?_ ?_ ?_ ?_ ?_ ?_ ?_
      rotate_left 1
      · simp only [List.getElem?_toArray, List.getElem?_cons_succ, List.getElem?_cons_zero]; rfl
      · kernel_rfl
      · kernel_rfl
      · kernel_rfl
      · exact fun _ _ _ h => h
      · exact Or.inr ⟨by kernel_rfl, rfl⟩
      · assumption
      try simp only [Act.put, List.setIfInBounds_toArray, List.set_cons_zero, List.set_cons_succ]
      refine wpAnyH_take (i := 14) (oi := ?_) (v := undef) ?_ ?_ ?_ ?_ ?_ ?_ ?_ ?_
      rotate_left 1
      · simp only [List.getElem?_toArray, List.getElem?_cons_succ, List.getElem?_cons_zero]; rfl
      · kernel_rfl
      · kernel_rfl
      · kernel_rfl
      · exact fun _ _ _ h => h
      · exact Or.inr ⟨by kernel_rfl, rfl⟩
      · assumption
      try simp only [Act.put, List.setIfInBounds_toArray, List.set_cons_zero, List.set_cons_succ]
      refine wpAnyH_take (i := 15) (oi := ?_) (v := undef) ?_ ?_ ?_ ?_ ?_ ?_ ?_ ?_
      rotate_left 1
      · simp only [List.getElem?_toArray, List.getElem?_cons_succ, List.getElem?_cons_zero]; rfl
      · kernel_rfl
      · kernel_rfl
      · kernel_rfl
      · exact fun _ _ _ h => h
      · exact Or.inr ⟨by kernel_rfl, rfl⟩
      · assumption
      try simp only [Act.put, List.setIfInBounds_toArray, List.set_cons_zero, List.set_cons_succ]
      refine wpAnyH_take (i := 16) (oi := ?_) (v := undef) ?_ ?_ ?_ ?_ ?_ ?_ ?_ ?_
      rotate_left 1
      · simp only [List.getElem?_toArray, List.getElem?_cons_succ, List.getElem?_cons_zero]; rfl
      · kernel_rfl
      · kernel_rfl
      · kernel_rfl
      · exact fun _ _ _ h => h
      · exact Or.inr ⟨by kernel_rfl, rfl⟩
      · assumption
      try simp only [Act.put, List.setIfInBounds_toArray, List.set_cons_zero, List.set_cons_succ]
      refine wpAnyH_take (i := 17) (oi := ?_) (v := undef) ?_ ?_ ?_ ?_ ?_ ?_ ?_ ?_
      rotate_left 1
      · simp only [List.getElem?_toArray, List.getElem?_cons_succ, List.getElem?_cons_zero]; rfl
      · kernel_rfl
      · kernel_rfl
      · kernel_rfl
      · exact fun _ _ _ h => h
      · exact Or.inr ⟨by kernel_rfl, rfl⟩
      · assumption
      try simp only [Act.put, List.setIfInBounds_toArray, List.set_cons_zero, List.set_cons_succ]
      refine wpAnyH_take (i := 18) (oi := ?_) (v := undef) ?_ ?_ ?_ ?_ ?_ ?_ ?_ ?_
      rotate_left 1
      · simp only [List.getElem?_toArray, List.getElem?_cons_succ, List.getElem?_cons_zero]; rfl
      · kernel_rfl
      · kernel_rfl
      · kernel_rfl
      · exact fun _ _ _ h => h
      · exact Or.inr ⟨by kernel_rfl, rfl⟩
      · assumption
      try simp only [Act.put, List.setIfInBounds_toArray, List.set_cons_zero, List.set_cons_succ]
      refine wpAnyH_take (i := 19) (oi := ?_) (v := undef) ?_ ?_ ?_ ?_ ?_ ?_ ?_ ?_
      rotate_left 1
      · simp only [List.getElem?_toArray, List.getElem?_cons_succ, List.getElem?_cons_zero]; rfl
      · kernel_rfl
      · kernel_rfl
      · kernel_rfl
      · exact fun _ _ _ h => h
      · exact Or.inr ⟨by kernel_rfl, rfl⟩
      · assumption
      try simp only [Act.put, List.setIfInBounds_toArray, List.set_cons_zero, List.set_cons_succ]
      refine wpAnyH_take (i := 20) (oi := ?_) (v := undef) ?_ ?_ ?_ ?_ ?_ ?_ ?_ ?_
      rotate_left 1
      · simp only [List.getElem?_toArray, List.getElem?_cons_succ, List.getElem?_cons_zero]; rfl
      · kernel_rfl
      · kernel_rfl
      · kernel_rfl
      · exact fun _ _ _ h => h
      · exact Or.inr ⟨by kernel_rfl, rfl⟩
      · assumption
      try simp only [Act.put, List.setIfInBounds_toArray, List.set_cons_zero, List.set_cons_succ]
      refine wpAnyH_take (i := 21) (oi := ?_) (v := ?_) ?_ ?_ ?_ ?_ ?_ ?_ ?_ ?_
      rotate_left 2
      · simp only [List.getElem?_toArray, List.getElem?_cons_succ, List.getElem?_cons_zero]; rfl
      · kernel_rfl
      · kernel_rfl
      · kernel_rfl
      · exact fun _ _ _ h => h
      · refine Or.inl ⟨by rfl, ?_⟩
        intro w' hSw
        (try dsimp only at hSw)
        go_simp
        all_goals (with_reducible rfl)
      · assumption
      try simp only [Act.put, List.setIfInBounds_toArray, List.set_cons_zero, List.set_cons_succ]
      refine wpAnyH_done (by kernel_rfl) ?_ _
      clear hHeld
      go_wp2
      go_end0
      have := HJ.out.2
      unfold riseE at this
      rw [this]
      exact ⟨rfl, HM.out.keep B1.out, HF.out.trans (Fr.of_below B1.out)⟩
    | succ j =>
      have jl : j < M.length := by omega
      obtain ⟨y, hy⟩ : ∃ y, M[j]? = some y := ⟨_, List.getElem?_eq_getElem jl⟩
      obtain ⟨x, hx⟩ : ∃ x, M[j + 1]? = some x := ⟨_, List.getElem?_eq_getElem hj⟩
      obtain ⟨j1, hj1⟩ : ∃ k, k = j + 1 := ⟨_, rfl⟩
      rw [← hj1] at hx HK HJ ⊢
      have t1 : decide ((0 : Int) < (j1 : Int)) = true := by rw [decide_eq_true_iff]; omega
      have t1' : 0 < j1 := by omega
      have e1 : IntKind.i64.wrap ((j1 : Int) - 1) = (j : Int) := by rw [IntKind.wrap_i64]; omega
      have t2 : (0 : Int) ≤ (j : Int) := by omega
      have t3 : (j : Int) < (m : Int) := by omega
      have t4 : (0 : Int) ≤ (j1 : Int) := by omega
      have t5 : (j1 : Int) < (m : Int) := by omega
      have HXY := Lib.hid (And.intro hy hx)
      have HJJ := Lib.hid (show j1 = j + 1 ∧ j < M.length ∧ j1 < M.length by omega)
      have HS2 := Lib.hid (show ∀ wx, Below wr.heap.size wr wx → (fun w' : World => (∀ i, w'.cell? ⟨Q.s, i, none⟩ = (smC Q m tot)[i]?) ∧ (w'.cell? ⟨Q.g, j * 3, none⟩ = some (.int .i64 y.n) ∧ w'.cell? ⟨Q.g, j * 3 + 1, none⟩ = some (.int .i64 y.e) ∧ w'.cell? ⟨Q.g, j * 3 + 2, none⟩ = some (.int .i64 (y.p : Int))) ∧ (w'.cell? ⟨Q.g, j1 * 3, none⟩ = some (.int .i64 x.n) ∧ w'.cell? ⟨Q.g, j1 * 3 + 1, none⟩ = some (.int .i64 x.e) ∧ w'.cell? ⟨Q.g, j1 * 3 + 2, none⟩ = some (.int .i64 (x.p : Int)))) wx from fun wx hb => ⟨HS.out wx hb, (HM.out.keep hb).cell hy, (HM.out.keep hb).cell hx⟩)
      have hunf : riseE M j1 = if y.n < x.n then riseE ((M.set j x).set j1 y) j else M := by
        rw [hj1]
        conv => lhs; unfold riseE
        rw [hy, ← hj1, hx]
      have HU := Lib.hid hunf
      clear hm hle hn hj jl hy hx hj1 hunf
      go_upto_region 0 with (fail)
      refine wp_region_held_drew (S := (fun w' : World => (∀ i, w'.cell? ⟨Q.s, i, none⟩ = (smC Q m tot)[i]?) ∧ (w'.cell? ⟨Q.g, j * 3, none⟩ = some (.int .i64 y.n) ∧ w'.cell? ⟨Q.g, j * 3 + 1, none⟩ = some (.int .i64 y.e) ∧ w'.cell? ⟨Q.g, j * 3 + 2, none⟩ = some (.int .i64 (y.p : Int))) ∧ (w'.cell? ⟨Q.g, j1 * 3, none⟩ = some (.int .i64 x.n) ∧ w'.cell? ⟨Q.g, j1 * 3 + 1, none⟩ = some (.int .i64 x.e) ∧ w'.cell? ⟨Q.g, j1 * 3 + 2, none⟩ = some (.int .i64 (x.p : Int))))) (by kernel_rfl) (HS2.out _ B1.out) (fun hHeld => ?_)
      refine wpAnyH_take (i := 0) (oi := ?_) (v := ?_) ?_ ?_ ?_ ?_ ?_ ?_ ?_ ?_
      rotate_left 2
      · simp only [List.getElem?_toArray, List.getElem?_cons_succ, List.getElem?_cons_zero]; rfl
      · kernel_rfl
      · kernel_rfl
      · kernel_rfl
      · exact fun _ _ _ h => h
      · refine Or.inl ⟨by rfl, ?_⟩
        intro w' hSw
        (try dsimp only at hSw)
        go_simp
        all_goals (with_reducible rfl)
      · assumption
      try simp only [Act.put, List.setIfInBounds_toArray, List.set_cons_zero, List.set_cons_succ]
      refine wpAnyH_take (i := 1) (oi := ?_) (v := ?_) ?_ ?_ ?_ ?_ ?_ ?_ ?_ ?_
      rotate_left 2
      · simp only [List.getElem?_toArray, List.getElem?_cons_succ, List.getElem?_cons_zero]; rfl
      · kernel_rfl
      · kernel_rfl
      · kernel_rfl
      · exact fun _ _ _ h => h
      · refine Or.inl ⟨by rfl, ?_⟩
        intro w' hSw
        (try dsimp only at hSw)
        go_simp
        all_goals (with_reducible rfl)
      · assumption
      try simp only [Act.put, List.setIfInBounds_toArray, List.set_cons_zero, List.set_cons_succ]
      refine wpAnyH_take (i := 2) (oi := ?_) (v := ?_) ?_ ?_ ?_ ?_ ?_ ?_ ?_ ?_
      rotate_left 2
      · simp only [List.getElem?_toArray, List.getElem?_cons_succ, List.getElem?_cons_zero]; rfl
      · kernel_rfl
      · kernel_rfl
      · kernel_rfl
      · exact fun _ _ _ h => h
      · refine Or.inl ⟨by rfl, ?_⟩
        intro w' hSw
        (try dsimp only at hSw)
        go_simp
        all_goals (with_reducible rfl)
      · assumption
      try simp only [Act.put, List.setIfInBounds_toArray, List.set_cons_zero, List.set_cons_succ]
      refine wpAnyH_take (i := 3) (oi := ?_) (v := ?_) ?_ ?_ ?_ ?_ ?_ ?_ ?_ ?_
      rotate_left 2
      · simp only [List.getElem?_toArray, List.getElem?_cons_succ, List.getElem?_cons_zero]; rfl
      · kernel_rfl
      · kernel_rfl
      · kernel_rfl
      · exact fun _ _ _ h => h
      · refine Or.inl ⟨by rfl, ?_⟩
        intro w' hSw
        (try dsimp only at hSw)
        go_simp
        all_goals (with_reducible rfl)
      · assumption
      try simp only [Act.put, List.setIfInBounds_toArray, List.set_cons_zero, List.set_cons_succ]
      refine wpAnyH_take (i := 4) (oi := ?_) (v := ?_) ?_ ?_ ?_ ?_ ?_ ?_ ?_ ?_
      rotate_left 2
      · simp only [List.getElem?_toArray, List.getElem?_cons_succ, List.getElem?_cons_zero]; rfl
      · kernel_rfl
      · kernel_rfl
      · kernel_rfl
      · exact fun _ _ _ h => h
      · refine Or.inl ⟨by rfl, ?_⟩
        intro w' hSw
        (try dsimp only at hSw)
        go_simp
        all_goals (with_reducible rfl)
      · assumption
      try simp only [Act.put, List.setIfInBounds_toArray, List.set_cons_zero, List.set_cons_succ]
      refine wpAnyH_take (i := 5) (oi := ?_) (v := ?_) ?_ ?_ ?_ ?_ ?_ ?_ ?_ ?_
      rotate_left 2
      · simp only [List.getElem?_toArray, List.getElem?_cons_succ, List.getElem?_cons_zero]; rfl
      · kernel_rfl
      · kernel_rfl
      · kernel_rfl
      · exact fun _ _ _ h => h
      · refine Or.inl ⟨by rfl, ?_⟩
        intro w' hSw
        (try dsimp only at hSw)
        go_simp
        all_goals (with_reducible rfl)
      · assumption
      try simp only [Act.put, List.setIfInBounds_toArray, List.set_cons_zero, List.set_cons_succ]
      refine wpAnyH_take (i := 6) (oi := ?_) (v := ?_) ?_ ?_ ?_ ?_ ?_ ?_ ?_ ?_
      rotate_left 2
      · simp only [List.getElem?_toArray, List.getElem?_cons_succ, List.getElem?_cons_zero]; rfl
      · kernel_rfl
      · kernel_rfl
      · kernel_rfl
      · exact fun _ _ _ h => h
      · refine Or.inl ⟨by rfl, ?_⟩
        intro w' hSw
        (try dsimp only at hSw)
        go_simp
        all_goals (with_reducible rfl)
      · assumption
      try simp only [Act.put, List.setIfInBounds_toArray, List.set_cons_zero, List.set_cons_succ]
      refine wpAnyH_take (i := 7) (oi := ?_) (v := ?_) ?_ ?_ ?_ ?_ ?_ ?_ ?_ ?_
      rotate_left 2
      · simp only [List.getElem?_toArray, List.getElem?_cons_succ, List.getElem?_cons_zero]; rfl
      · kernel_rfl
      · kernel_rfl
      · kernel_rfl
      · exact fun _ _ _ h => h
      · refine Or.inl ⟨by rfl, ?_⟩
        intro w' hSw
        (try dsimp only at hSw)
        go_simp
        all_goals (with_reducible rfl)
      · assumption
      try simp only [Act.put, List.setIfInBounds_toArray, List.set_cons_zero, List.set_cons_succ]
      refine wpAnyH_take (i := 8) (oi := ?_) (v := ?_) ?_ ?_ ?_ ?_ ?_ ?_ ?_ ?_
      rotate_left 2
      · simp only [List.getElem?_toArray, List.getElem?_cons_succ, List.getElem?_cons_zero]; rfl
      · kernel_rfl
      · kernel_rfl
      · kernel_rfl
      · exact fun _ _ _ h => h
      · refine Or.inl ⟨by rfl, ?_⟩
        intro w' hSw
        (try dsimp only at hSw)
        go_simp
        all_goals (with_reducible rfl)
      · assumption
      try simp only [Act.put, List.setIfInBounds_toArray, List.set_cons_zero, List.set_cons_succ]
      refine wpAnyH_take (i := 9) (oi := ?_) (v := ?_) ?_ ?_ ?_ ?_ ?_ ?_ ?_ ?_
      rotate_left 2
      · simp only [List.getElem?_toArray, List.getElem?_cons_succ, List.getElem?_cons_zero]; rfl
      · kernel_rfl
      · kernel_rfl
      · kernel_rfl
      · exact fun _ _ _ h => h
      · refine Or.inl ⟨by rfl, ?_⟩
        intro w' hSw
        (try dsimp only at hSw)
        go_simp
        all_goals (with_reducible rfl)
      · assumption
      try simp only [Act.put, List.setIfInBounds_toArray, List.set_cons_zero, List.set_cons_succ]
      refine wpAnyH_take (i := 10) (oi := ?_) (v := ?_) ?_ ?_ ?_ ?_ ?_ ?_ ?_ ?_
      rotate_left 2
      · simp only [List.getElem?_toArray, List.getElem?_cons_succ, List.getElem?_cons_zero]; rfl
      · kernel_rfl
      · kernel_rfl
      · kernel_rfl
      · exact fun _ _ _ h => h
      · refine Or.inl ⟨by rfl, ?_⟩
        intro w' hSw
        (try dsimp only at hSw)
        go_simp
        all_goals (with_reducible rfl)
      · assumption
      try simp only [Act.put, List.setIfInBounds_toArray, List.set_cons_zero, List.set_cons_succ]
      refine wpAnyH_take (i := 11) (oi := ?_) (v := ?_) ?_ ?_ ?_ ?_ ?_ ?_ ?_ ?_
      rotate_left 2
      · simp only [List.getElem?_toArray, List.getElem?_cons_succ, List.getElem?_cons_zero]; rfl
      · kernel_rfl
      · kernel_rfl
      · kernel_rfl
      · exact fun _ _ _ h => h
      · refine Or.inl ⟨by rfl, ?_⟩
        intro w' hSw
        (try dsimp only at hSw)
        go_simp
        all_goals (with_reducible rfl)
      · assumption
      try simp only [Act.put, List.setIfInBounds_toArray, List.set_cons_zero, List.set_cons_succ]
      refine wpAnyH_take (i := 12) (oi := ?_) (v := ?_) ?_ ?_ ?_ ?_ ?_ ?_ ?_ ?_
      rotate_left 2
      · simp only [List.getElem?_toArray, List.getElem?_cons_succ, List.getElem?_cons_zero]; rfl
      · kernel_rfl
      · kernel_rfl
      · kernel_rfl
      · exact fun _ _ _ h => h
      · refine Or.inl ⟨by rfl, ?_⟩
        intro w' hSw
        (try dsimp only at hSw)
        go_simp
        all_goals (with_reducible rfl)
      · assumption
      try simp only [Act.put, List.setIfInBounds_toArray, List.set_cons_zero, List.set_cons_succ]
      refine wpAnyH_take (i := 13) (oi := ?_) (v := ?_) ?_ ?_ ?_ ?_ ?_ ?_ ?_ ?_
      rotate_left 2
      · simp only [List.getElem?_toArray, List.getElem?_cons_succ, List.getElem?_cons_zero]; rfl
      · kernel_rfl
      · kernel_rfl
      · kernel_rfl
      · exact fun _ _ _ h => h
      · refine Or.inl ⟨by rfl, ?_⟩
        intro w' hSw
        (try dsimp only at hSw)
        go_simp
        all_goals (with_reducible rfl)
      · assumption
      try simp only [Act.put, List.setIfInBounds_toArray, List.set_cons_zero, List.set_cons_succ]
      refine wpAnyH_take (i := 14) (oi := ?_) (v := ?_) ?_ ?_ ?_ ?_ ?_ ?_ ?_ ?_
      rotate_left 2
      · simp only [List.getElem?_toArray, List.getElem?_cons_succ, List.getElem?_cons_zero]; rfl
      · kernel_rfl
      · kernel_rfl
      · kernel_rfl
      · exact fun _ _ _ h => h
      · refine Or.inl ⟨by rfl, ?_⟩
        intro w' hSw
        (try dsimp only at hSw)
        go_simp
        all_goals (with_reducible rfl)
      · assumption
      try simp only [Act.put, List.setIfInBounds_toArray, List.set_cons_zero, List.set_cons_succ]
      refine wpAnyH_take (i := 15) (oi := ?_) (v := ?_) ?_ ?_ ?_ ?_ ?_ ?_ ?_ ?_
      rotate_left 2
      · simp only [List.getElem?_toArray, List.getElem?_cons_succ, List.getElem?_cons_zero]; rfl
      · kernel_rfl
      · kernel_rfl
      · kernel_rfl
      · exact fun _ _ _ h => h
      · refine Or.inl ⟨by rfl, ?_⟩
        intro w' hSw
        (try dsimp only at hSw)
        go_simp
        all_goals (with_reducible rfl)
      · assumption
      try simp only [Act.put, List.setIfInBounds_toArray, List.set_cons_zero, List.set_cons_succ]
      refine wpAnyH_take (i := 16) (oi := ?_) (v := ?_) ?_ ?_ ?_ ?_ ?_ ?_ ?_ ?_
      rotate_left 2
      · simp only [List.getElem?_toArray, List.getElem?_cons_succ, List.getElem?_cons_zero]; rfl
      · kernel_rfl
      · kernel_rfl
      · kernel_rfl
      · exact fun _ _ _ h => h
      · refine Or.inl ⟨by rfl, ?_⟩
        intro w' hSw
        (try dsimp only at hSw)
        go_simp
        all_goals (with_reducible rfl)
      · assumption
      try simp only [Act.put, List.setIfInBounds_toArray, List.set_cons_zero, List.set_cons_succ]
      refine wpAnyH_take (i := 17) (oi := ?_) (v := ?_) ?_ ?_ ?_ ?_ ?_ ?_ ?_ ?_
      rotate_left 2
      · simp only [List.getElem?_toArray, List.getElem?_cons_succ, List.getElem?_cons_zero]; rfl
      · kernel_rfl
      · kernel_rfl
      · kernel_rfl
      · exact fun _ _ _ h => h
      · refine Or.inl ⟨by rfl, ?_⟩
        intro w' hSw
        (try dsimp only at hSw)
        go_simp
        all_goals (with_reducible rfl)
      · assumption
      try simp only [Act.put, List.setIfInBounds_toArray, List.set_cons_zero, List.set_cons_succ]
      refine wpAnyH_take (i := 18) (oi := ?_) (v := ?_) ?_ ?_ ?_ ?_ ?_ ?_ ?_ ?_
      rotate_left 2
      · simp only [List.getElem?_toArray, List.getElem?_cons_succ, List.getElem?_cons_zero]; rfl
      · kernel_rfl
      · kernel_rfl
      · kernel_rfl
      · exact fun _ _ _ h => h
      · refine Or.inl ⟨by rfl, ?_⟩
        intro w' hSw
        (try dsimp only at hSw)
        go_simp
        all_goals (with_reducible rfl)
      · assumption
      try simp only [Act.put, List.setIfInBounds_toArray, List.set_cons_zero, List.set_cons_succ]
      refine wpAnyH_take (i := 19) (oi := ?_) (v := ?_) ?_ ?_ ?_ ?_ ?_ ?_ ?_ ?_
      rotate_left 2
      · simp only [List.getElem?_toArray, List.getElem?_cons_succ, List.getElem?_cons_zero]; rfl
      · kernel_rfl
      · kernel_rfl
      · kernel_rfl
      · exact fun _ _ _ h => h
      · refine Or.inl ⟨by rfl, ?_⟩
        intro w' hSw
        (try dsimp only at hSw)
        go_simp
        all_goals (with_reducible rfl)
      · assumption
      try simp only [Act.put, List.setIfInBounds_toArray, List.set_cons_zero, List.set_cons_succ]
      refine wpAnyH_take (i := 20) (oi := ?_) (v := ?_) ?_ ?_ ?_ ?_ ?_ ?_ ?_ ?_
      rotate_left 2
      · simp only [List.getElem?_toArray, List.getElem?_cons_succ, List.getElem?_cons_zero]; rfl
      · kernel_rfl
      · kernel_rfl
      · kernel_rfl
      · exact fun _ _ _ h => h
      · refine Or.inl ⟨by rfl, ?_⟩
        intro w' hSw
        (try dsimp only at hSw)
        go_simp
        all_goals (with_reducible rfl)
      · assumption
      try simp only [Act.put, List.setIfInBounds_toArray, List.set_cons_zero, List.set_cons_succ]
      refine wpAnyH_take (i := 21) (oi := ?_) (v := ?_) ?_ ?_ ?_ ?_ ?_ ?_ ?_ ?_
      rotate_left 2
      · simp only [List.getElem?_toArray, List.getElem?_cons_succ, List.getElem?_cons_zero]; rfl
      · kernel_rfl
      · kernel_rfl
      · kernel_rfl
      · exact fun _ _ _ h => h
      · refine Or.inl ⟨by rfl, ?_⟩
        intro w' hSw
        (try dsimp only at hSw)
        go_simp
        all_goals (with_reducible rfl)
      · assumption
      try simp only [Act.put, List.setIfInBounds_toArray, List.set_cons_zero, List.set_cons_succ]
      refine wpAnyH_done (by kernel_rfl) ?_ _
      clear hHeld
      by_cases hlt : y.n < x.n
      · as_aux_lemma =>
          have b1 : decide (y.n < x.n) = true := by rw [decide_eq_true_iff]; exact hlt
          have HLT := Lib.hid hlt
          have B2 := Lib.hid (show Below wr.heap.size wr wr.drew.drew from below_draws (Below.refl _ _) 2)
          obtain ⟨R, hg, hl⟩ := (HM.out.keep B2.out).hg
          obtain ⟨w2, hw2⟩ : ∃ z, z = wr.drew.drew := ⟨_, rfl⟩
          have hjR : j < (M ++ R).length := by have := HJJ.out.2.1; rw [List.length_append]; omega
          have hxR : (M ++ R)[j1]? = some x := by rw [List.getElem?_append_left HJJ.out.2.2]; exact HXY.out.2
          have hyR : (M ++ R)[j]? = some y := by rw [List.getElem?_append_left HJJ.out.2.1]; exact HXY.out.1
          rw [← hw2] at hg
          have hS2 : (fun w' : World => (∀ i, w'.cell? ⟨Q.s, i, none⟩ = (smC Q m tot)[i]?) ∧ (w'.cell? ⟨Q.g, j * 3, none⟩ = some (.int .i64 y.n) ∧ w'.cell? ⟨Q.g, j * 3 + 1, none⟩ = some (.int .i64 y.e) ∧ w'.cell? ⟨Q.g, j * 3 + 2, none⟩ = some (.int .i64 (y.p : Int))) ∧ (w'.cell? ⟨Q.g, j1 * 3, none⟩ = some (.int .i64 x.n) ∧ w'.cell? ⟨Q.g, j1 * 3 + 1, none⟩ = some (.int .i64 x.e) ∧ w'.cell? ⟨Q.g, j1 * 3 + 2, none⟩ = some (.int .i64 (x.p : Int)))) w2 := by rw [hw2]; exact HS2.out _ B2.out
          have st1 := rws_store3 encE_len hg hjR x (v0 := .int .i64 x.n) (v1 := .int .i64 x.e) (v2 := .int .i64 (x.p : Int)) rfl
          have g3 : Blk (setObj w2 Q.g (.cells (rws encE ((M ++ R).set j x)).toArray 154 (0, 0))) Q.g 154 (rws encE ((M ++ R).set j x)).toArray := setObj_at (lt_of_block hg) _
          have f3 : Fr (fun k => k = Q.g) w2 (setObj w2 Q.g (.cells (rws encE ((M ++ R).set j x)).toArray 154 (0, 0))) := Fr.setObj (F := fun k => k = Q.g) (Fr.refl _ _) rfl _
          obtain ⟨w3, hw3⟩ : ∃ z, z = setObj w2 Q.g (.cells (rws encE ((M ++ R).set j x)).toArray 154 (0, 0)) := ⟨_, rfl⟩
          rw [← hw3] at st1 g3 f3
          have hj1R : j1 < ((M ++ R).set j x).length := by have := HJJ.out.2.2; rw [List.length_set, List.length_append]; omega
          have st2 := rws_store3 encE_len g3 hj1R y (v0 := .int .i64 y.n) (v1 := .int .i64 y.e) (v2 := .int .i64 (y.p : Int)) rfl
          have hx3 : ((M ++ R).set j x)[j1]? = some x := by rw [List.getElem?_set_ne (by have := HJJ.out.1; omega)]; exact hxR
          have d0 : w3.cell? ⟨Q.g, j1 * 3, none⟩ = some (.int .i64 x.n) := rws_cell encE_len g3 hx3 (j := 0) (by omega)
          have d1 : w3.cell? ⟨Q.g, j1 * 3 + 1, none⟩ = some (.int .i64 x.e) := rws_cell encE_len g3 hx3 (j := 1) (by omega)
          have d2 : w3.cell? ⟨Q.g, j1 * 3 + 2, none⟩ = some (.int .i64 (x.p : Int)) := rws_cell encE_len g3 hx3 (j := 2) (by omega)
          have gw := hg.wr
          have gw3 := g3.wr
          have HG := Lib.hid (And.intro hg hl)
          have G3 := Lib.hid g3
          have F3 := Lib.hid f3
          clear hjR hxR hyR hj1R hx3 hg hl g3 f3
          go_upto_region 1 with (fail)
          clear hlt
          refine Ph.start [27] (Ph.pick [(fun w' : World => (∀ i, w'.cell? ⟨Q.s, i, none⟩ = (smC Q m tot)[i]?) ∧ (w'.cell? ⟨Q.g, j * 3, none⟩ = some (.int .i64 y.n) ∧ w'.cell? ⟨Q.g, j * 3 + 1, none⟩ = some (.int .i64 y.e) ∧ w'.cell? ⟨Q.g, j * 3 + 2, none⟩ = some (.int .i64 (y.p : Int))) ∧ (w'.cell? ⟨Q.g, j1 * 3, none⟩ = some (.int .i64 x.n) ∧ w'.cell? ⟨Q.g, j1 * 3 + 1, none⟩ = some (.int .i64 x.e) ∧ w'.cell? ⟨Q.g, j1 * 3 + 2, none⟩ = some (.int .i64 (x.p : Int)))), (fun w' : World => (∀ i, w'.cell? ⟨Q.s, i, none⟩ = (smC Q m tot)[i]?))]) (by kernel_rfl) (Ph.pick0 (by rw [← hw2]; exact hS2)) (fun hHeld hOrd => ?_)
          rw [← hw2]
          clear hw3
          rw [← hw2] at hHeld
          have B2 : Hid (Below wr.heap.size wr w2) := Lib.hid (by rw [hw2]; exact B2.out)
          obtain ⟨q0, q1, q2⟩ := hS2.2.1
          clear hw2 hS2
          have HS3 := Lib.hid (show (fun w' : World => (∀ i, w'.cell? ⟨Q.s, i, none⟩ = (smC Q m tot)[i]?)) w3 from by rw [HMM.out]; exact ((HM.out.keep B2.out).hs.fr F3.out HM.out.ne.1).rd)
          have HS4 := Lib.hid (show (fun w' : World => (∀ i, w'.cell? ⟨Q.s, i, none⟩ = (smC Q m tot)[i]?)) (setObj w3 Q.g (.cells (rws encE (((M ++ R).set j x).set j1 y)).toArray 154 (0, 0))) from by rw [HMM.out]; exact (((HM.out.keep B2.out).hs.fr F3.out HM.out.ne.1).fr (Fr.setObj (F := fun k => k = Q.g) (Fr.refl _ _) rfl _) HM.out.ne.1).rd)
          have HT := Lib.hid (show ∀ p, p ≤ 1 → ∀ w', Ph.pick [(fun w' : World => (∀ i, w'.cell? ⟨Q.s, i, none⟩ = (smC Q m tot)[i]?) ∧ (w'.cell? ⟨Q.g, j * 3, none⟩ = some (.int .i64 y.n) ∧ w'.cell? ⟨Q.g, j * 3 + 1, none⟩ = some (.int .i64 y.e) ∧ w'.cell? ⟨Q.g, j * 3 + 2, none⟩ = some (.int .i64 (y.p : Int))) ∧ (w'.cell? ⟨Q.g, j1 * 3, none⟩ = some (.int .i64 x.n) ∧ w'.cell? ⟨Q.g, j1 * 3 + 1, none⟩ = some (.int .i64 x.e) ∧ w'.cell? ⟨Q.g, j1 * 3 + 2, none⟩ = some (.int .i64 (x.p : Int)))), (fun w' : World => (∀ i, w'.cell? ⟨Q.s, i, none⟩ = (smC Q m tot)[i]?))] p w' → (fun w' : World => (∀ i, w'.cell? ⟨Q.s, i, none⟩ = (smC Q m tot)[i]?)) w' from fun p hp w' h => by
            match p, hp, h with
            | 0, _, h => exact h.1
            | 1, _, h => exact h)
          refine Ph.takeAll (i := 6) (oi := ?_) (v := ?_) (p := 0) ((fun w' : World => (∀ i, w'.cell? ⟨Q.s, i, none⟩ = (smC Q m tot)[i]?))) (HT.out) ?_ ?_ ?_ ?_ hOrd ?_ ?_ ?_ ?_ ?_ ?_
          rotate_left 2
          · simp only [List.getElem?_toArray, List.getElem?_cons_succ, List.getElem?_cons_zero]; rfl
          · kernel_rfl
          · kernel_rfl
          · kernel_rfl
          · kernel_rfl
          · kernel_rfl
          · exact fun _ _ _ h => h
          · refine Or.inl ⟨by rfl, ?_⟩
            intro w' hSw
            (try dsimp only at hSw)
            go_simp
            all_goals (with_reducible rfl)
          · assumption
          clear hOrd
          intro hOrd
          try simp only [Act.put, List.setIfInBounds_toArray, List.set_cons_zero, List.set_cons_succ] at hOrd ⊢
          refine Ph.takeAll (i := 7) (oi := ?_) (v := ?_) (p := 0) ((fun w' : World => (∀ i, w'.cell? ⟨Q.s, i, none⟩ = (smC Q m tot)[i]?))) (HT.out) ?_ ?_ ?_ ?_ hOrd ?_ ?_ ?_ ?_ ?_ ?_
          rotate_left 2
          · simp only [List.getElem?_toArray, List.getElem?_cons_succ, List.getElem?_cons_zero]; rfl
          · kernel_rfl
          · kernel_rfl
          · kernel_rfl
          · kernel_rfl
          · kernel_rfl
          · exact fun _ _ _ h => h
          · refine Or.inl ⟨by rfl, ?_⟩
            intro w' hSw
            (try dsimp only at hSw)
            go_simp
            all_goals (with_reducible rfl)
          · assumption
          clear hOrd
          intro hOrd
          try simp only [Act.put, List.setIfInBounds_toArray, List.set_cons_zero, List.set_cons_succ] at hOrd ⊢
          refine Ph.takeAll (i := 8) (oi := ?_) (v := ?_) (p := 0) ((fun w' : World => (∀ i, w'.cell? ⟨Q.s, i, none⟩ = (smC Q m tot)[i]?))) (HT.out) ?_ ?_ ?_ ?_ hOrd ?_ ?_ ?_ ?_ ?_ ?_
          rotate_left 2
          · simp only [List.getElem?_toArray, List.getElem?_cons_succ, List.getElem?_cons_zero]; rfl
          · kernel_rfl
          · kernel_rfl
          · kernel_rfl
          · kernel_rfl
          · kernel_rfl
          · exact fun _ _ _ h => h
          · refine Or.inl ⟨by rfl, ?_⟩
            intro w' hSw
            (try dsimp only at hSw)
            go_simp
            all_goals (with_reducible rfl)
          · assumption
          clear hOrd
          intro hOrd
          try simp only [Act.put, List.setIfInBounds_toArray, List.set_cons_zero, List.set_cons_succ] at hOrd ⊢
          refine Ph.takeAll (i := 9) (oi := ?_) (v := ?_) (p := 0) ((fun w' : World => (∀ i, w'.cell? ⟨Q.s, i, none⟩ = (smC Q m tot)[i]?))) (HT.out) ?_ ?_ ?_ ?_ hOrd ?_ ?_ ?_ ?_ ?_ ?_
          rotate_left 2
          · simp only [List.getElem?_toArray, List.getElem?_cons_succ, List.getElem?_cons_zero]; rfl
          · kernel_rfl
          · kernel_rfl
          · kernel_rfl
          · kernel_rfl
          · kernel_rfl
          · exact fun _ _ _ h => h
          · refine Or.inl ⟨by rfl, ?_⟩
            intro w' hSw
            (try dsimp only at hSw)
            go_simp
            all_goals (with_reducible rfl)
          · assumption
          clear hOrd
          intro hOrd
          try simp only [Act.put, List.setIfInBounds_toArray, List.set_cons_zero, List.set_cons_succ] at hOrd ⊢
          refine Ph.takeAll (i := 10) (oi := ?_) (v := ?_) (p := 0) ((fun w' : World => (∀ i, w'.cell? ⟨Q.s, i, none⟩ = (smC Q m tot)[i]?))) (HT.out) ?_ ?_ ?_ ?_ hOrd ?_ ?_ ?_ ?_ ?_ ?_
          rotate_left 2
          · simp only [List.getElem?_toArray, List.getElem?_cons_succ, List.getElem?_cons_zero]; rfl
          · kernel_rfl
          · kernel_rfl
          · kernel_rfl
          · kernel_rfl
          · kernel_rfl
          · exact fun _ _ _ h => h
          · refine Or.inl ⟨by rfl, ?_⟩
            intro w' hSw
            (try dsimp only at hSw)
            go_simp
            all_goals (with_reducible rfl)
          · assumption
          clear hOrd
          intro hOrd
          try simp only [Act.put, List.setIfInBounds_toArray, List.set_cons_zero, List.set_cons_succ] at hOrd ⊢
          refine Ph.take (i := 0) (oi := ?_) (v := ?_) (p := 0) ?_ ?_ ?_ ?_ hOrd ?_ ?_ ?_ ?_ ?_ ?_
          rotate_left 2
          · simp only [List.getElem?_toArray, List.getElem?_cons_succ, List.getElem?_cons_zero]; rfl
          · kernel_rfl
          · kernel_rfl
          · kernel_rfl
          · kernel_rfl
          · kernel_rfl
          · exact fun _ _ _ h => h
          · refine Or.inl ⟨by rfl, ?_⟩
            intro w' hSw
            (try simp only [Ph.pick, List.getD_cons_succ, List.getD_cons_zero] at hSw)
            go_simp
            all_goals (with_reducible rfl)
          · assumption
          clear hOrd
          intro hOrd
          try simp only [Act.put, List.setIfInBounds_toArray, List.set_cons_zero, List.set_cons_succ] at hOrd ⊢
          refine Ph.take (i := 1) (oi := ?_) (v := ?_) (p := 0) ?_ ?_ ?_ ?_ hOrd ?_ ?_ ?_ ?_ ?_ ?_
          rotate_left 2
          · simp only [List.getElem?_toArray, List.getElem?_cons_succ, List.getElem?_cons_zero]; rfl
          · kernel_rfl
          · kernel_rfl
          · kernel_rfl
          · kernel_rfl
          · kernel_rfl
          · exact fun _ _ _ h => h
          · refine Or.inl ⟨by rfl, ?_⟩
            intro w' hSw
            (try simp only [Ph.pick, List.getD_cons_succ, List.getD_cons_zero] at hSw)
            go_simp
            all_goals (with_reducible rfl)
          · assumption
          clear hOrd
          intro hOrd
          try simp only [Act.put, List.setIfInBounds_toArray, List.set_cons_zero, List.set_cons_succ] at hOrd ⊢
          refine Ph.take (i := 2) (oi := ?_) (v := ?_) (p := 0) ?_ ?_ ?_ ?_ hOrd ?_ ?_ ?_ ?_ ?_ ?_
          rotate_left 2
          · simp only [List.getElem?_toArray, List.getElem?_cons_succ, List.getElem?_cons_zero]; rfl
          · kernel_rfl
          · kernel_rfl
          · kernel_rfl
          · kernel_rfl
          · kernel_rfl
          · exact fun _ _ _ h => h
          · refine Or.inl ⟨by rfl, ?_⟩
            intro w' hSw
            (try simp only [Ph.pick, List.getD_cons_succ, List.getD_cons_zero] at hSw)
            go_simp
            all_goals (with_reducible rfl)
          · assumption
          clear hOrd
          intro hOrd
          try simp only [Act.put, List.setIfInBounds_toArray, List.set_cons_zero, List.set_cons_succ] at hOrd ⊢
          refine Ph.take (i := 3) (oi := ?_) (v := ?_) (p := 0) ?_ ?_ ?_ ?_ hOrd ?_ ?_ ?_ ?_ ?_ ?_
          rotate_left 2
          · simp only [List.getElem?_toArray, List.getElem?_cons_succ, List.getElem?_cons_zero]; rfl
          · kernel_rfl
          · kernel_rfl
          · kernel_rfl
          · kernel_rfl
          · kernel_rfl
          · exact fun _ _ _ h => h
          · refine Or.inl ⟨by rfl, ?_⟩
            intro w' hSw
            (try simp only [Ph.pick, List.getD_cons_succ, List.getD_cons_zero] at hSw)
            go_simp
            all_goals (with_reducible rfl)
          · assumption
          clear hOrd
          intro hOrd
          try simp only [Act.put, List.setIfInBounds_toArray, List.set_cons_zero, List.set_cons_succ] at hOrd ⊢
          refine Ph.take (i := 4) (oi := ?_) (v := ?_) (p := 0) ?_ ?_ ?_ ?_ hOrd ?_ ?_ ?_ ?_ ?_ ?_
          rotate_left 2
          · simp only [List.getElem?_toArray, List.getElem?_cons_succ, List.getElem?_cons_zero]; rfl
          · kernel_rfl
          · kernel_rfl
          · kernel_rfl
          · kernel_rfl
          · kernel_rfl
          · exact fun _ _ _ h => h
          · refine Or.inl ⟨by rfl, ?_⟩
            intro w' hSw
            (try simp only [Ph.pick, List.getD_cons_succ, List.getD_cons_zero] at hSw)
            go_simp
            all_goals (with_reducible rfl)
          · assumption
          clear hOrd
          intro hOrd
          try simp only [Act.put, List.setIfInBounds_toArray, List.set_cons_zero, List.set_cons_succ] at hOrd ⊢
          refine Ph.take (i := 5) (oi := ?_) (v := ?_) (p := 0) ?_ ?_ ?_ ?_ hOrd ?_ ?_ ?_ ?_ ?_ ?_
          rotate_left 2
          · simp only [List.getElem?_toArray, List.getElem?_cons_succ, List.getElem?_cons_zero]; rfl
          · kernel_rfl
          · kernel_rfl
          · kernel_rfl
          · kernel_rfl
          · kernel_rfl
          · exact fun _ _ _ h => h
          · refine Or.inl ⟨by rfl, ?_⟩
            intro w' hSw
            (try simp only [Ph.pick, List.getD_cons_succ, List.getD_cons_zero] at hSw)
            go_simp
            all_goals (with_reducible rfl)
          · assumption
          clear hOrd
          intro hOrd
          try simp only [Act.put, List.setIfInBounds_toArray, List.set_cons_zero, List.set_cons_succ] at hOrd ⊢
          refine Ph.take (i := 11) (oi := ?_) (v := ?_) (p := 0) ?_ ?_ ?_ ?_ hOrd ?_ ?_ ?_ ?_ ?_ ?_
          rotate_left 2
          · simp only [List.getElem?_toArray, List.getElem?_cons_succ, List.getElem?_cons_zero]; rfl
          · kernel_rfl
          · kernel_rfl
          · kernel_rfl
          · kernel_rfl
          · kernel_rfl
          · exact fun _ _ _ h => h
          · refine Or.inl ⟨by rfl, ?_⟩
            intro w' hSw
            (try simp only [Ph.pick, List.getD_cons_succ, List.getD_cons_zero] at hSw)
            go_simp
            all_goals (with_reducible rfl)
          · assumption
          clear hOrd
          intro hOrd
          try simp only [Act.put, List.setIfInBounds_toArray, List.set_cons_zero, List.set_cons_succ] at hOrd ⊢
          refine Ph.take (i := 12) (oi := ?_) (v := ?_) (p := 0) ?_ ?_ ?_ ?_ hOrd ?_ ?_ ?_ ?_ ?_ ?_
          rotate_left 2
          · simp only [List.getElem?_toArray, List.getElem?_cons_succ, List.getElem?_cons_zero]; rfl
          · kernel_rfl
          · kernel_rfl
          · kernel_rfl
          · kernel_rfl
          · kernel_rfl
          · exact fun _ _ _ h => h
          · refine Or.inl ⟨by rfl, ?_⟩
            intro w' hSw
            (try simp only [Ph.pick, List.getD_cons_succ, List.getD_cons_zero] at hSw)
            go_simp
            all_goals (with_reducible rfl)
          · assumption
          clear hOrd
          intro hOrd
          try simp only [Act.put, List.setIfInBounds_toArray, List.set_cons_zero, List.set_cons_succ] at hOrd ⊢
          refine Ph.take (i := 13) (oi := ?_) (v := ?_) (p := 0) ?_ ?_ ?_ ?_ hOrd ?_ ?_ ?_ ?_ ?_ ?_
          rotate_left 2
          · simp only [List.getElem?_toArray, List.getElem?_cons_succ, List.getElem?_cons_zero]; rfl
          · kernel_rfl
          · kernel_rfl
          · kernel_rfl
          · kernel_rfl
          · kernel_rfl
          · exact fun _ _ _ h => h
          · refine Or.inl ⟨by rfl, ?_⟩
            intro w' hSw
            (try simp only [Ph.pick, List.getD_cons_succ, List.getD_cons_zero] at hSw)
            go_simp
            all_goals (with_reducible rfl)
          · assumption
          clear hOrd
          intro hOrd
          try simp only [Act.put, List.setIfInBounds_toArray, List.set_cons_zero, List.set_cons_succ] at hOrd ⊢
          refine Ph.take (i := 14) (oi := ?_) (v := ?_) (p := 0) ?_ ?_ ?_ ?_ hOrd ?_ ?_ ?_ ?_ ?_ ?_
          rotate_left 2
          · simp only [List.getElem?_toArray, List.getElem?_cons_succ, List.getElem?_cons_zero]; rfl
          · kernel_rfl
          · kernel_rfl
          · kernel_rfl
          · kernel_rfl
          · kernel_rfl
          · exact fun _ _ _ h => h
          · refine Or.inl ⟨by rfl, ?_⟩
            intro w' hSw
            (try simp only [Ph.pick, List.getD_cons_succ, List.getD_cons_zero] at hSw)
            go_simp
            all_goals (with_reducible rfl)
          · assumption
          clear hOrd
          intro hOrd
          try simp only [Act.put, List.setIfInBounds_toArray, List.set_cons_zero, List.set_cons_succ] at hOrd ⊢
          refine Ph.take (i := 15) (oi := ?_) (v := ?_) (p := 0) ?_ ?_ ?_ ?_ hOrd ?_ ?_ ?_ ?_ ?_ ?_
          rotate_left 2
          · simp only [List.getElem?_toArray, List.getElem?_cons_succ, List.getElem?_cons_zero]; rfl
          · kernel_rfl
          · kernel_rfl
          · kernel_rfl
          · kernel_rfl
          · kernel_rfl
          · exact fun _ _ _ h => h
          · refine Or.inl ⟨by rfl, ?_⟩
            intro w' hSw
            (try simp only [Ph.pick, List.getD_cons_succ, List.getD_cons_zero] at hSw)
            go_simp
            all_goals (with_reducible rfl)
          · assumption
          clear hOrd
          intro hOrd
          try simp only [Act.put, List.setIfInBounds_toArray, List.set_cons_zero, List.set_cons_succ] at hOrd ⊢
          refine Ph.take (i := 16) (oi := ?_) (v := ?_) (p := 0) ?_ ?_ ?_ ?_ hOrd ?_ ?_ ?_ ?_ ?_ ?_
          rotate_left 2
          · simp only [List.getElem?_toArray, List.getElem?_cons_succ, List.getElem?_cons_zero]; rfl
          · kernel_rfl
          · kernel_rfl
          · kernel_rfl
          · kernel_rfl
          · kernel_rfl
          · exact fun _ _ _ h => h
          · refine Or.inl ⟨by rfl, ?_⟩
            intro w' hSw
            (try simp only [Ph.pick, List.getD_cons_succ, List.getD_cons_zero] at hSw)
            go_simp
            all_goals (with_reducible rfl)
          · assumption
          clear hOrd
          intro hOrd
          try simp only [Act.put, List.setIfInBounds_toArray, List.set_cons_zero, List.set_cons_succ] at hOrd ⊢
          refine Ph.take (i := 17) (oi := ?_) (v := ?_) (p := 0) ?_ ?_ ?_ ?_ hOrd ?_ ?_ ?_ ?_ ?_ ?_
          rotate_left 2
          · simp only [List.getElem?_toArray, List.getElem?_cons_succ, List.getElem?_cons_zero]; rfl
          · kernel_rfl
          · kernel_rfl
          · kernel_rfl
          · kernel_rfl
          · kernel_rfl
          · exact fun _ _ _ h => h
          · refine Or.inl ⟨by rfl, ?_⟩
            intro w' hSw
            (try simp only [Ph.pick, List.getD_cons_succ, List.getD_cons_zero] at hSw)
            go_simp
            all_goals (with_reducible rfl)
          · assumption
          clear hOrd
          intro hOrd
          try simp only [Act.put, List.setIfInBounds_toArray, List.set_cons_zero, List.set_cons_succ] at hOrd ⊢
          refine Ph.take (i := 18) (oi := ?_) (v := ?_) (p := 0) ?_ ?_ ?_ ?_ hOrd ?_ ?_ ?_ ?_ ?_ ?_
          rotate_left 2
          · simp only [List.getElem?_toArray, List.getElem?_cons_succ, List.getElem?_cons_zero]; rfl
          · kernel_rfl
          · kernel_rfl
          · kernel_rfl
          · kernel_rfl
          · kernel_rfl
          · exact fun _ _ _ h => h
          · refine Or.inl ⟨by rfl, ?_⟩
            intro w' hSw
            (try simp only [Ph.pick, List.getD_cons_succ, List.getD_cons_zero] at hSw)
            go_simp
            all_goals (with_reducible rfl)
          · assumption
          clear hOrd
          intro hOrd
          try simp only [Act.put, List.setIfInBounds_toArray, List.set_cons_zero, List.set_cons_succ] at hOrd ⊢
          refine Ph.take (i := 19) (oi := ?_) (v := ?_) (p := 0) ?_ ?_ ?_ ?_ hOrd ?_ ?_ ?_ ?_ ?_ ?_
          rotate_left 2
          · simp only [List.getElem?_toArray, List.getElem?_cons_succ, List.getElem?_cons_zero]; rfl
          · kernel_rfl
          · kernel_rfl
          · kernel_rfl
          · kernel_rfl
          · kernel_rfl
          · exact fun _ _ _ h => h
          · refine Or.inl ⟨by rfl, ?_⟩
            intro w' hSw
            (try simp only [Ph.pick, List.getD_cons_succ, List.getD_cons_zero] at hSw)
            go_simp
            all_goals (with_reducible rfl)
          · assumption
          clear hOrd
          intro hOrd
          try simp only [Act.put, List.setIfInBounds_toArray, List.set_cons_zero, List.set_cons_succ] at hOrd ⊢
          refine Ph.take (i := 20) (oi := ?_) (v := ?_) (p := 0) ?_ ?_ ?_ ?_ hOrd ?_ ?_ ?_ ?_ ?_ ?_
          rotate_left 2
          · simp only [List.getElem?_toArray, List.getElem?_cons_succ, List.getElem?_cons_zero]; rfl
          · kernel_rfl
          · kernel_rfl
          · kernel_rfl
          · kernel_rfl
          · kernel_rfl
          · exact fun _ _ _ h => h
          · refine Or.inl ⟨by rfl, ?_⟩
            intro w' hSw
            (try simp only [Ph.pick, List.getD_cons_succ, List.getD_cons_zero] at hSw)
            go_simp
            all_goals (with_reducible rfl)
          · assumption
          clear hOrd
          intro hOrd
          try simp only [Act.put, List.setIfInBounds_toArray, List.set_cons_zero, List.set_cons_succ] at hOrd ⊢
          refine Ph.take (i := 21) (oi := ?_) (v := ?_) (p := 0) ?_ ?_ ?_ ?_ hOrd ?_ ?_ ?_ ?_ ?_ ?_
          rotate_left 2
          · simp only [List.getElem?_toArray, List.getElem?_cons_succ, List.getElem?_cons_zero]; rfl
          · kernel_rfl
          · kernel_rfl
          · kernel_rfl
          · kernel_rfl
          · kernel_rfl
          · exact fun _ _ _ h => h
          · refine Or.inl ⟨by rfl, ?_⟩
            intro w' hSw
            (try simp only [Ph.pick, List.getD_cons_succ, List.getD_cons_zero] at hSw)
            go_simp
            all_goals (with_reducible rfl)
          · assumption
          clear hOrd
          intro hOrd
          try simp only [Act.put, List.setIfInBounds_toArray, List.set_cons_zero, List.set_cons_succ] at hOrd ⊢
          refine Ph.take (i := 22) (oi := ?_) (v := ?_) (p := 0) ?_ ?_ ?_ ?_ hOrd ?_ ?_ ?_ ?_ ?_ ?_
          rotate_left 2
          · simp only [List.getElem?_toArray, List.getElem?_cons_succ, List.getElem?_cons_zero]; rfl
          · kernel_rfl
          · kernel_rfl
          · kernel_rfl
          · kernel_rfl
          · kernel_rfl
          · exact fun _ _ _ h => h
          · refine Or.inl ⟨by rfl, ?_⟩
            intro w' hSw
            (try simp only [Ph.pick, List.getD_cons_succ, List.getD_cons_zero] at hSw)
            go_simp
            all_goals (with_reducible rfl)
          · assumption
          clear hOrd
          intro hOrd
          try simp only [Act.put, List.setIfInBounds_toArray, List.set_cons_zero, List.set_cons_succ] at hOrd ⊢
          refine Ph.take (i := 23) (oi := ?_) (v := ?_) (p := 0) ?_ ?_ ?_ ?_ hOrd ?_ ?_ ?_ ?_ ?_ ?_
          rotate_left 2
          · simp only [List.getElem?_toArray, List.getElem?_cons_succ, List.getElem?_cons_zero]; rfl
          · kernel_rfl
          · kernel_rfl
          · kernel_rfl
          · kernel_rfl
          · kernel_rfl
          · exact fun _ _ _ h => h
          · refine Or.inl ⟨by rfl, ?_⟩
            intro w' hSw
            (try simp only [Ph.pick, List.getD_cons_succ, List.getD_cons_zero] at hSw)
            go_simp
            all_goals (with_reducible rfl)
          · assumption
          clear hOrd
          intro hOrd
          try simp only [Act.put, List.setIfInBounds_toArray, List.set_cons_zero, List.set_cons_succ] at hOrd ⊢
          refine Ph.take (i := 24) (oi := ?_) (v := ?_) (p := 0) ?_ ?_ ?_ ?_ hOrd ?_ ?_ ?_ ?_ ?_ ?_
          rotate_left 2
          · simp only [List.getElem?_toArray, List.getElem?_cons_succ, List.getElem?_cons_zero]; rfl
          · kernel_rfl
          · kernel_rfl
          · kernel_rfl
          · kernel_rfl
          · kernel_rfl
          · exact fun _ _ _ h => h
          · refine Or.inl ⟨by rfl, ?_⟩
            intro w' hSw
            (try simp only [Ph.pick, List.getD_cons_succ, List.getD_cons_zero] at hSw)
            go_simp
            all_goals (with_reducible rfl)
          · assumption
          clear hOrd
          intro hOrd
          try simp only [Act.put, List.setIfInBounds_toArray, List.set_cons_zero, List.set_cons_succ] at hOrd ⊢
          refine Ph.take (i := 25) (oi := ?_) (v := ?_) (p := 0) ?_ ?_ ?_ ?_ hOrd ?_ ?_ ?_ ?_ ?_ ?_
          rotate_left 2
          · simp only [List.getElem?_toArray, List.getElem?_cons_succ, List.getElem?_cons_zero]; rfl
          · kernel_rfl
          · kernel_rfl
          · kernel_rfl
          · kernel_rfl
          · kernel_rfl
          · exact fun _ _ _ h => h
          · refine Or.inl ⟨by rfl, ?_⟩
            intro w' hSw
            (try simp only [Ph.pick, List.getD_cons_succ, List.getD_cons_zero] at hSw)
            go_simp
            all_goals (with_reducible rfl)
          · assumption
          clear hOrd
          intro hOrd
          try simp only [Act.put, List.setIfInBounds_toArray, List.set_cons_zero, List.set_cons_succ] at hOrd ⊢
          refine Ph.take (i := 26) (oi := ?_) (v := ?_) (p := 0) ?_ ?_ ?_ ?_ hOrd ?_ ?_ ?_ ?_ ?_ ?_
          rotate_left 2
          · simp only [List.getElem?_toArray, List.getElem?_cons_succ, List.getElem?_cons_zero]; rfl
          · kernel_rfl
          · kernel_rfl
          · kernel_rfl
          · kernel_rfl
          · kernel_rfl
          · exact fun _ _ _ h => h
          · refine Or.inl ⟨by rfl, ?_⟩
            intro w' hSw
            (try simp only [Ph.pick, List.getD_cons_succ, List.getD_cons_zero] at hSw)
            go_simp
            all_goals (with_reducible rfl)
          · assumption
          clear hOrd
          intro hOrd
          try simp only [Act.put, List.setIfInBounds_toArray, List.set_cons_zero, List.set_cons_succ] at hOrd ⊢
          refine Ph.alone (i := 27) (o := ?_) (p := 1) ?_ ?_ hOrd ?_ ?_
          rotate_left 2
          · simp only [List.getElem?_toArray, List.getElem?_cons_succ, List.getElem?_cons_zero]; rfl
          rotate_right 1
          · kernel_rfl
          · kernel_rfl
          clear hOrd
          intro K hK
          go_simp
          skip
          refine hK.out _ _ (Ph.pick1 HS3.out) (fun hHeld hOrd => ?_)
          clear hK K
          try simp only [Act.put, List.setIfInBounds_toArray, List.set_cons_zero, List.set_cons_succ] at hOrd ⊢
          try rw [st1]
          refine Ph.take (i := 28) (oi := ?_) (v := ?_) (p := 1) ?_ ?_ ?_ ?_ hOrd ?_ ?_ ?_ ?_ ?_ ?_
          rotate_left 2
          · simp only [List.getElem?_toArray, List.getElem?_cons_succ, List.getElem?_cons_zero]; rfl
          · kernel_rfl
          · kernel_rfl
          · kernel_rfl
          · kernel_rfl
          · kernel_rfl
          · exact fun _ _ _ h => h
          · refine Or.inl ⟨by rfl, ?_⟩
            intro w' hSw
            (try simp only [Ph.pick, List.getD_cons_succ, List.getD_cons_zero] at hSw)
            go_simp
            all_goals (with_reducible rfl)
          · assumption
          clear hOrd
          intro hOrd
          try simp only [Act.put, List.setIfInBounds_toArray, List.set_cons_zero, List.set_cons_succ] at hOrd ⊢
          refine Ph.alone (i := 29) (o := ?_) (p := 1) ?_ ?_ hOrd ?_ ?_
          rotate_left 2
          · simp only [List.getElem?_toArray, List.getElem?_cons_succ, List.getElem?_cons_zero]; rfl
          rotate_right 1
          · kernel_rfl
          · kernel_rfl
          clear hOrd
          intro K hK
          go_simp
          skip
          refine hK.out _ _ (Ph.pick1 HS4.out) (fun hHeld hOrd => ?_)
          clear hK K
          try simp only [Act.put, List.setIfInBounds_toArray, List.set_cons_zero, List.set_cons_succ] at hOrd ⊢
          try rw [st2]
          refine Ph.done (by kernel_rfl) ?_ _
          clear hHeld hOrd d0 d1 d2 q0 q1 q2 gw gw3 st1 st2
          have g4 : Blk (setObj w3 Q.g (.cells (rws encE (((M ++ R).set j x).set j1 y)).toArray 154 (0, 0))) Q.g 154 (rws encE (((M ++ R).set j x).set j1 y)).toArray := setObj_at (lt_of_block G3.out) _
          have f4 : Fr (fun k => k = Q.g) w3 (setObj w3 Q.g (.cells (rws encE (((M ++ R).set j x).set j1 y)).toArray 154 (0, 0))) := Fr.setObj (F := fun k => k = Q.g) (Fr.refl _ _) rfl _
          generalize setObj w3 Q.g (.cells (rws encE (((M ++ R).set j x).set j1 y)).toArray 154 (0, 0)) = w4 at g4 f4 ⊢
          have hh := HM.out.keep B2.out
          have f24 := F3.out.trans f4
          have hset : ((M ++ R).set j x).set j1 y = (M.set j x).set j1 y ++ R := by
            rw [List.set_append_left _ _ HJJ.out.2.1, List.set_append_left _ _ (by rw [List.length_set]; exact HJJ.out.2.2)]
          have hperm : ((M.set j x).set j1 y).Perm M := by rw [HJJ.out.1]; exact swap_perm HXY.out.1 (by have := HXY.out.2; rw [HJJ.out.1] at this; exact this)
          have H4 := Lib.hid (show SmAt w4 Q ((M.set j x).set j1 y) tot σ from ⟨by rw [hperm.length_eq]; exact hh.hs.fr f24 hh.ne.1, ⟨R, by rw [← hset]; exact g4, by rw [List.length_append, hperm.length_eq, ← List.length_append]; exact HG.out.2⟩, hh.ix.fr f24 (fun k hk e => (hh.ne.2 k hk).1 e), hh.n1, hh.ne, hh.ok.perm hperm⟩)
          have F4 := Lib.hid ((HF.out.trans (Fr.of_below B2.out)).trans (f24.mono (fun k hk => Or.inr (Or.inr hk))))
          have HN := Lib.hid (show j < ((M.set j x).set j1 y).length ∧ T = riseE ((M.set j x).set j1 y) j from ⟨by rw [hperm.length_eq]; exact HJJ.out.2.1, by have := HJ.out.2; rw [HU.out, if_pos HLT.out] at this; exact this⟩)
          clear g4 f4 f24 hset hperm hh
          go_wp2
          go_roundg j
          case measure => have := HK.out; have := HJJ.out.1; omega
          case rel => exact ⟨j, _, Lib.hid rfl, rfl, H4, F4, HN⟩
      · have b1 : decide (y.n < x.n) = false := by rw [decide_eq_false_iff_not]; exact hlt
        go_wp2
        go_end0
        have := HJ.out.2
        rw [HU.out, if_neg (Int.not_lt.2 hlt)] at this
        rw [this]
        exact ⟨rfl, HM.out.keep B1.out, HF.out.trans (Fr.of_below B1.out)⟩
end
end Go.Proofs.YtbgcpljekcagiaaGreat
/- The contracts of layer 8 (summary): enter. -/
namespace Go.Proofs.YtbgcpljekcagiaaGreat
set_option linter.unusedSimpArgs false
set_option linter.unusedVariables false
set_option maxRecDepth 100000
open Go.ChangeShapes Go.WideShapes Go.ChangeAt Go.RowKit
section
variable {w W : World} {Q : SmN} {L M : List Ent} {tot : Int} {σ : KSt}
def KSt.on (σ : KSt) (fl : List Nat) (i : Nat) (s : ByteArray) : KSt := ⟨fl, fun j => if j = i then some s else σ.K j⟩
theorem SmOK.put {n i : Nat} {fl : List Nat} {s : ByteArray} {a b : Int} (h : SmOK n L tot σ) (hf : σ.fl = fl ++ [i]) (hk : σ.K i = none) (ha : 0 ≤ a ∧ a ≤ tot) (hb : 0 ≤ b ∧ b ≤ tot) : SmOK n (L ++ [⟨s, a, b, i⟩]) tot (σ.on fl i s) := by
  have hne : ∀ x ∈ L, x.p ≠ i := fun x hx e => by
    have := h.key x hx
    rw [e, hk] at this
    cases this
  refine ⟨fun x hx => ?_, fun j t hj => ?_, ?_, ?_, fun x hx => ?_, h.tb⟩
  · show (if x.p = i then some s else σ.K x.p) = some x.k
    rcases List.mem_append.1 hx with h1 | h1
    · rw [if_neg (hne x h1)]; exact h.key x h1
    · rw [List.mem_singleton.1 h1]; exact if_pos rfl
  · have hj : (if j = i then some s else σ.K j) = some t := hj
    by_cases e : j = i
    · exact ⟨⟨s, a, b, i⟩, by simp, e.symm⟩
    · rw [if_neg e] at hj
      obtain ⟨x, hx, hp⟩ := h.has j t hj
      exact ⟨x, List.mem_append_left _ hx, hp⟩
  · rw [List.map_append, List.nodup_append]
    refine ⟨h.nd, by simp, fun p hp q hq => ?_⟩
    obtain ⟨x, hx, e⟩ := List.mem_map.1 hp
    have hq : q = i := by simpa using hq
    rw [← e, hq]
    exact hne x hx
  · have := h.cnt
    rw [hf, List.length_append] at this
    rw [List.length_append]
    show L.length + 1 + fl.length = n
    simp only [List.length_singleton] at this
    omega
  · rcases List.mem_append.1 hx with h1 | h1
    · exact h.bd x h1
    · rw [List.mem_singleton.1 h1]; exact ⟨ha.1, ha.2, hb.1, hb.2⟩
set_option maxRecDepth 100000 in
set_option maxHeartbeats 4000000 in
theorem smenter_no (s : ByteArray) (hs : s.size ≤ 64) (w : World) (h : SmAt w Q L tot σ) (hk : ∀ x ∈ L, x.k ≠ s) (hm : L.length < Q.N.n) : Calls Tryz.prog 96 #[.pointer (some ⟨Q.s, 0, none⟩), .string s] w fun e w' => e = .returned (.int .i64 (L.length : Int)) ∧ (∃ i σ', SmAt w' Q (L ++ [⟨s, 0, 0, i⟩]) tot σ') ∧ Fr Q.F w w' := by
  obtain ⟨m, hmm⟩ : ∃ m, m = L.length := ⟨_, rfl⟩
  have CL := Lib.hid (smleast_any w h)
  rw [show leastE Q.N.n L = 0 from by unfold leastE; rw [if_pos hm]] at CL
  obtain ⟨fl, i, hfl⟩ : ∃ fl i, σ.fl = fl ++ [i] := by
    have := h.ok.cnt
    rcases List.eq_nil_or_concat σ.fl with e | ⟨fl, i, e⟩
    · rw [e] at this; simp at this; omega
    · exact ⟨fl, i, by rw [e, List.concat_eq_append]⟩
  have hput : σ.put Q.N.n s = (σ.on fl i s, some i) := by
    unfold KSt.put
    rw [h.ok.no hk]
    simp only [if_neg (show ¬ 64 < s.size by omega)]
    rw [hfl]
    simp [KSt.on]
  have hfree := h.ix.uni.2.2.2.free (i := i) (by rw [hfl]; simp)
  have CP := Lib.hid (fun wx (hb : Below w.heap.size w wx) => ixput_any s (by unfold maxLen; omega) wx (h.ix.keep hb))
  rw [hput] at CP
  have HF := Lib.hid (show SmOK Q.N.n (L ++ [⟨s, 0, 0, i⟩]) tot (σ.on fl i s) from h.ok.put hfl hfree.2 (by have := h.ok.tb; omega) (by have := h.ok.tb; omega))
  have HH := Lib.hid h
  have CN := Lib.hid (fun wx (hb : Below w.heap.size w wx) => len_any wx ((h.ix.keep hb).ks))
  have hn := h.n1
  rw [← hmm] at hm ⊢
  have HM := Lib.hid (And.intro hmm hm)
  have b1 : ((m : Int) == (Q.N.n : Int)) = false := by rw [beq_eq_false_iff_ne]; omega
  clear h hk hfl hput hfree hmm
  go_enter Tryz.func96, Tryz.ntmps96
  go_upto_region 2 with (go_at_call 125; ((with_reducible refine CL.out.mono ?_); rintro e w1 ⟨rfl, b⟩; have B1 := Lib.hid b; clear b))
  have HS := Lib.hid (show ∀ wx, Below w.heap.size w wx → (fun w' : World => (∀ i, w'.cell? ⟨Q.s, i, none⟩ = (smC Q m tot)[i]?)) wx from fun wx hb => by rw [HM.out.1]; exact (HH.out.keep hb).hs.rd)
  have B2 := Lib.hid (show Below w.heap.size w w1.drew from below_draws B1.out 1)
  refine wp_region_held_drew (S := (fun w' : World => (∀ i, w'.cell? ⟨Q.s, i, none⟩ = (smC Q m tot)[i]?))) (by kernel_rfl) (HS.out _ B2.out) (fun hHeld => ?_)
  refine wpAnyH_take (i := 0) (oi := ?_) (v := ?_) ?_ ?_ ?_ ?_ ?_ ?_ ?_ ?_
  rotate_left 2
  · simp only [List.getElem?_toArray, List.getElem?_cons_succ, List.getElem?_cons_zero]; rfl
  · kernel_rfl
  · kernel_rfl
  · kernel_rfl
  · exact fun _ _ _ h => h
  · refine Or.inl ⟨by rfl, ?_⟩
    intro w' hSw
    (try dsimp only at hSw)
    go_simp
    all_goals (with_reducible rfl)
  · assumption
  try simp only [Act.put, List.setIfInBounds_toArray, List.set_cons_zero, List.set_cons_succ]
  refine wpAnyH_take (i := 1) (oi := ?_) (v := ?_) ?_ ?_ ?_ ?_ ?_ ?_ ?_ ?_
  rotate_left 2
  · simp only [List.getElem?_toArray, List.getElem?_cons_succ, List.getElem?_cons_zero]; rfl
  · kernel_rfl
  · kernel_rfl
  · kernel_rfl
  · exact fun _ _ _ h => h
  · refine Or.inl ⟨by rfl, ?_⟩
    intro w' hSw
    (try dsimp only at hSw)
    go_simp
    all_goals (with_reducible rfl)
  · assumption
  try simp only [Act.put, List.setIfInBounds_toArray, List.set_cons_zero, List.set_cons_succ]
  refine wpAnyH_take (i := 2) (oi := ?_) (v := ?_) ?_ ?_ ?_ ?_ ?_ ?_ ?_ ?_
  rotate_left 2
  · simp only [List.getElem?_toArray, List.getElem?_cons_succ, List.getElem?_cons_zero]; rfl
  · kernel_rfl
  · kernel_rfl
  · kernel_rfl
  · exact fun _ _ _ h => h
  · refine Or.inl ⟨by rfl, ?_⟩
    intro w' hSw
    (try dsimp only at hSw)
    go_simp
    all_goals (with_reducible rfl)
  · assumption
  try simp only [Act.put, List.setIfInBounds_toArray, List.set_cons_zero, List.set_cons_succ]
  refine wpAnyH_take (i := 3) (oi := ?_) (v := ?_) ?_ ?_ ?_ ?_ ?_ ?_ ?_ ?_
  rotate_left 2
  · simp only [List.getElem?_toArray, List.getElem?_cons_succ, List.getElem?_cons_zero]; rfl
  · kernel_rfl
  · kernel_rfl
  · kernel_rfl
  · exact fun _ _ _ h => h
  · refine Or.inl ⟨by rfl, ?_⟩
    intro w' hSw
    (try dsimp only at hSw)
    go_simp
    all_goals (with_reducible rfl)
  · assumption
  try simp only [Act.put, List.setIfInBounds_toArray, List.set_cons_zero, List.set_cons_succ]
  refine wpAnyH_take (i := 4) (oi := ?_) (v := ?_) ?_ ?_ ?_ ?_ ?_ ?_ ?_ ?_
  rotate_left 2
  · simp only [List.getElem?_toArray, List.getElem?_cons_succ, List.getElem?_cons_zero]; rfl
  · kernel_rfl
  · kernel_rfl
  · kernel_rfl
  · exact fun _ _ _ h => h
  · refine Or.inl ⟨by rfl, ?_⟩
    intro w' hSw
    (try dsimp only at hSw)
    go_simp
    all_goals (with_reducible rfl)
  · assumption
  try simp only [Act.put, List.setIfInBounds_toArray, List.set_cons_zero, List.set_cons_succ]
  refine wpAnyH_take (i := 5) (oi := ?_) (v := ?_) ?_ ?_ ?_ ?_ ?_ ?_ ?_ ?_
  rotate_left 2
  · simp only [List.getElem?_toArray, List.getElem?_cons_succ, List.getElem?_cons_zero]; rfl
  · kernel_rfl
  · kernel_rfl
  · kernel_rfl
  · exact fun _ _ _ h => h
  · refine Or.inl ⟨by rfl, ?_⟩
    intro w' hSw
    (try dsimp only at hSw)
    go_simp
    all_goals (with_reducible rfl)
  · assumption
  try simp only [Act.put, List.setIfInBounds_toArray, List.set_cons_zero, List.set_cons_succ]
  refine wpAnyH_take (i := 6) (oi := ?_) (v := ?_) ?_ ?_ ?_ ?_ ?_ ?_ ?_ ?_
  rotate_left 2
  · simp only [List.getElem?_toArray, List.getElem?_cons_succ, List.getElem?_cons_zero]; rfl
  · kernel_rfl
  · kernel_rfl
  · kernel_rfl
  · exact fun _ _ _ h => h
  · refine Or.inl ⟨by rfl, ?_⟩
    intro w' hSw
    (try dsimp only at hSw)
    go_simp
    all_goals (with_reducible rfl)
  · assumption
  try simp only [Act.put, List.setIfInBounds_toArray, List.set_cons_zero, List.set_cons_succ]
  refine wpAnyH_take (i := 7) (oi := ?_) (v := ?_) ?_ ?_ ?_ ?_ ?_ ?_ ?_ ?_
  rotate_left 2
  · simp only [List.getElem?_toArray, List.getElem?_cons_succ, List.getElem?_cons_zero]; rfl
  · kernel_rfl
  · kernel_rfl
  · kernel_rfl
  · exact fun _ _ _ h => h
  · refine Or.inl ⟨by rfl, ?_⟩
    intro w' hSw
    (try dsimp only at hSw)
    go_simp
    all_goals (with_reducible rfl)
  · assumption
  try simp only [Act.put, List.setIfInBounds_toArray, List.set_cons_zero, List.set_cons_succ]
  refine wpAnyH_take (i := 8) (oi := ?_) (v := ?_) ?_ ?_ ?_ ?_ ?_ ?_ ?_ ?_
  rotate_left 2
  · simp only [List.getElem?_toArray, List.getElem?_cons_succ, List.getElem?_cons_zero]; rfl
  · kernel_rfl
  · kernel_rfl
  · kernel_rfl
  · exact fun _ _ _ h => h
  · refine Or.inl ⟨by rfl, ?_⟩
    intro w' hSw
    (try dsimp only at hSw)
    go_simp
    all_goals (with_reducible rfl)
  · assumption
  try simp only [Act.put, List.setIfInBounds_toArray, List.set_cons_zero, List.set_cons_succ]
  refine wpAnyH_ready (rs := [9]) (by kernel_rfl) (by simp) ?_
  refine AllReadyH.cons (o := ?_) ?_ ?_ ?_
  rotate_left 1
  · simp only [List.getElem?_toArray, List.getElem?_cons_succ, List.getElem?_cons_zero]; rfl
  rotate_left 1
  · exact AllReadyH.nil
  intro K hK
  go_simp
  ((with_reducible refine (CN.out w1.drew B2.out).mono ?_); rintro e wx ⟨rfl, rfl⟩)
  refine hK.out _ _ hHeld (fun hHeld => ?_)
  clear hK K
  try simp only [Act.put, List.setIfInBounds_toArray, List.set_cons_zero, List.set_cons_succ]
  refine wpAnyH_take (i := 10) (oi := ?_) (v := ?_) ?_ ?_ ?_ ?_ ?_ ?_ ?_ ?_
  rotate_left 2
  · simp only [List.getElem?_toArray, List.getElem?_cons_succ, List.getElem?_cons_zero]; rfl
  · kernel_rfl
  · kernel_rfl
  · kernel_rfl
  · exact fun _ _ _ h => h
  · refine Or.inl ⟨by rfl, ?_⟩
    intro w' hSw
    (try dsimp only at hSw)
    go_simp
    all_goals (with_reducible rfl)
  · assumption
  try simp only [Act.put, List.setIfInBounds_toArray, List.set_cons_zero, List.set_cons_succ]
  refine wpAnyH_done (by kernel_rfl) ?_ _
  clear hHeld
  have hne : ¬ m = Q.N.n := by omega
  go_upto_region 4 with (fail)
  have B3 := Lib.hid (show Below w.heap.size w w1.drew.drew from below_draws B1.out 2)
  obtain ⟨w3, hw3⟩ : ∃ z, z = w1.drew.drew := ⟨_, rfl⟩
  refine Ph.start [18] (Ph.pick [(fun w' : World => (∀ i, w'.cell? ⟨Q.s, i, none⟩ = (smC Q m tot)[i]?)), (fun _ : World => True)]) (by kernel_rfl) (Ph.pick0 (HS.out _ B3.out)) (fun hHeld hOrd => ?_)
  rw [← hw3] at hHeld ⊢
  have B3 : Hid (Below w.heap.size w w3) := Lib.hid (by rw [hw3]; exact B3.out)
  clear hw3
  have CPQ := Lib.hid (show Calls Tryz.prog 126 #[.pointer (some ⟨Q.N.x, 0, none⟩), .string s] w3 (fun e w' => e = .returned (.int .i64 (i : Int)) ∧ IdxAt w' Q.N (σ.on fl i s) ∧ Fr Q.N.F w3 w') from CP.out _ B3.out)
  have H3 := Lib.hid (HH.out.keep B3.out)
  refine Ph.take (i := 0) (oi := ?_) (v := ?_) (p := 0) ?_ ?_ ?_ ?_ hOrd ?_ ?_ ?_ ?_ ?_ ?_
  rotate_left 2
  · simp only [List.getElem?_toArray, List.getElem?_cons_succ, List.getElem?_cons_zero]; rfl
  · kernel_rfl
  · kernel_rfl
  · kernel_rfl
  · kernel_rfl
  · kernel_rfl
  · exact fun _ _ _ h => h
  · refine Or.inl ⟨by rfl, ?_⟩
    intro w' hSw
    (try simp only [Ph.pick, List.getD_cons_succ, List.getD_cons_zero] at hSw)
    go_simp
    all_goals (with_reducible rfl)
  · assumption
  clear hOrd
  intro hOrd
  try simp only [Act.put, List.setIfInBounds_toArray, List.set_cons_zero, List.set_cons_succ] at hOrd ⊢
  refine Ph.take (i := 1) (oi := ?_) (v := ?_) (p := 0) ?_ ?_ ?_ ?_ hOrd ?_ ?_ ?_ ?_ ?_ ?_
  rotate_left 2
  · simp only [List.getElem?_toArray, List.getElem?_cons_succ, List.getElem?_cons_zero]; rfl
  · kernel_rfl
  · kernel_rfl
  · kernel_rfl
  · kernel_rfl
  · kernel_rfl
  · exact fun _ _ _ h => h
  · refine Or.inl ⟨by rfl, ?_⟩
    intro w' hSw
    (try simp only [Ph.pick, List.getD_cons_succ, List.getD_cons_zero] at hSw)
    go_simp
    all_goals (with_reducible rfl)
  · assumption
  clear hOrd
  intro hOrd
  try simp only [Act.put, List.setIfInBounds_toArray, List.set_cons_zero, List.set_cons_succ] at hOrd ⊢
  refine Ph.take (i := 2) (oi := ?_) (v := ?_) (p := 0) ?_ ?_ ?_ ?_ hOrd ?_ ?_ ?_ ?_ ?_ ?_
  rotate_left 2
  · simp only [List.getElem?_toArray, List.getElem?_cons_succ, List.getElem?_cons_zero]; rfl
  · kernel_rfl
  · kernel_rfl
  · kernel_rfl
  · kernel_rfl
  · kernel_rfl
  · exact fun _ _ _ h => h
  · refine Or.inl ⟨by rfl, ?_⟩
    intro w' hSw
    (try simp only [Ph.pick, List.getD_cons_succ, List.getD_cons_zero] at hSw)
    go_simp
    all_goals (with_reducible rfl)
  · assumption
  clear hOrd
  intro hOrd
  try simp only [Act.put, List.setIfInBounds_toArray, List.set_cons_zero, List.set_cons_succ] at hOrd ⊢
  refine Ph.take (i := 3) (oi := ?_) (v := ?_) (p := 0) ?_ ?_ ?_ ?_ hOrd ?_ ?_ ?_ ?_ ?_ ?_
  rotate_left 2
  · simp only [List.getElem?_toArray, List.getElem?_cons_succ, List.getElem?_cons_zero]; rfl
  · kernel_rfl
  · kernel_rfl
  · kernel_rfl
  · kernel_rfl
  · kernel_rfl
  · exact fun _ _ _ h => h
  · refine Or.inl ⟨by rfl, ?_⟩
    intro w' hSw
    (try simp only [Ph.pick, List.getD_cons_succ, List.getD_cons_zero] at hSw)
    go_simp
    all_goals (with_reducible rfl)
  · assumption
  clear hOrd
  intro hOrd
  try simp only [Act.put, List.setIfInBounds_toArray, List.set_cons_zero, List.set_cons_succ] at hOrd ⊢
  refine Ph.take (i := 4) (oi := ?_) (v := ?_) (p := 0) ?_ ?_ ?_ ?_ hOrd ?_ ?_ ?_ ?_ ?_ ?_
  rotate_left 2
  · simp only [List.getElem?_toArray, List.getElem?_cons_succ, List.getElem?_cons_zero]; rfl
  · kernel_rfl
  · kernel_rfl
  · kernel_rfl
  · kernel_rfl
  · kernel_rfl
  · exact fun _ _ _ h => h
  · refine Or.inl ⟨by rfl, ?_⟩
    intro w' hSw
    (try simp only [Ph.pick, List.getD_cons_succ, List.getD_cons_zero] at hSw)
    go_simp
    all_goals (with_reducible rfl)
  · assumption
  clear hOrd
  intro hOrd
  try simp only [Act.put, List.setIfInBounds_toArray, List.set_cons_zero, List.set_cons_succ] at hOrd ⊢
  refine Ph.take (i := 5) (oi := ?_) (v := ?_) (p := 0) ?_ ?_ ?_ ?_ hOrd ?_ ?_ ?_ ?_ ?_ ?_
  rotate_left 2
  · simp only [List.getElem?_toArray, List.getElem?_cons_succ, List.getElem?_cons_zero]; rfl
  · kernel_rfl
  · kernel_rfl
  · kernel_rfl
  · kernel_rfl
  · kernel_rfl
  · exact fun _ _ _ h => h
  · refine Or.inl ⟨by rfl, ?_⟩
    intro w' hSw
    (try simp only [Ph.pick, List.getD_cons_succ, List.getD_cons_zero] at hSw)
    go_simp
    all_goals (with_reducible rfl)
  · assumption
  clear hOrd
  intro hOrd
  try simp only [Act.put, List.setIfInBounds_toArray, List.set_cons_zero, List.set_cons_succ] at hOrd ⊢
  refine Ph.take (i := 6) (oi := ?_) (v := ?_) (p := 0) ?_ ?_ ?_ ?_ hOrd ?_ ?_ ?_ ?_ ?_ ?_
  rotate_left 2
  · simp only [List.getElem?_toArray, List.getElem?_cons_succ, List.getElem?_cons_zero]; rfl
  · kernel_rfl
  · kernel_rfl
  · kernel_rfl
  · kernel_rfl
  · kernel_rfl
  · exact fun _ _ _ h => h
  · refine Or.inl ⟨by rfl, ?_⟩
    intro w' hSw
    (try simp only [Ph.pick, List.getD_cons_succ, List.getD_cons_zero] at hSw)
    go_simp
    all_goals (with_reducible rfl)
  · assumption
  clear hOrd
  intro hOrd
  try simp only [Act.put, List.setIfInBounds_toArray, List.set_cons_zero, List.set_cons_succ] at hOrd ⊢
  refine Ph.take (i := 7) (oi := ?_) (v := ?_) (p := 0) ?_ ?_ ?_ ?_ hOrd ?_ ?_ ?_ ?_ ?_ ?_
  rotate_left 2
  · simp only [List.getElem?_toArray, List.getElem?_cons_succ, List.getElem?_cons_zero]; rfl
  · kernel_rfl
  · kernel_rfl
  · kernel_rfl
  · kernel_rfl
  · kernel_rfl
  · exact fun _ _ _ h => h
  · refine Or.inl ⟨by rfl, ?_⟩
    intro w' hSw
    (try simp only [Ph.pick, List.getD_cons_succ, List.getD_cons_zero] at hSw)
    go_simp
    all_goals (with_reducible rfl)
  · assumption
  clear hOrd
  intro hOrd
  try simp only [Act.put, List.setIfInBounds_toArray, List.set_cons_zero, List.set_cons_succ] at hOrd ⊢
  refine Ph.take (i := 8) (oi := ?_) (v := ?_) (p := 0) ?_ ?_ ?_ ?_ hOrd ?_ ?_ ?_ ?_ ?_ ?_
  rotate_left 2
  · simp only [List.getElem?_toArray, List.getElem?_cons_succ, List.getElem?_cons_zero]; rfl
  · kernel_rfl
  · kernel_rfl
  · kernel_rfl
  · kernel_rfl
  · kernel_rfl
  · exact fun _ _ _ h => h
  · refine Or.inl ⟨by rfl, ?_⟩
    intro w' hSw
    (try simp only [Ph.pick, List.getD_cons_succ, List.getD_cons_zero] at hSw)
    go_simp
    all_goals (with_reducible rfl)
  · assumption
  clear hOrd
  intro hOrd
  try simp only [Act.put, List.setIfInBounds_toArray, List.set_cons_zero, List.set_cons_succ] at hOrd ⊢
  refine Ph.take (i := 9) (oi := ?_) (v := ?_) (p := 0) ?_ ?_ ?_ ?_ hOrd ?_ ?_ ?_ ?_ ?_ ?_
  rotate_left 2
  · simp only [List.getElem?_toArray, List.getElem?_cons_succ, List.getElem?_cons_zero]; rfl
  · kernel_rfl
  · kernel_rfl
  · kernel_rfl
  · kernel_rfl
  · kernel_rfl
  · exact fun _ _ _ h => h
  · refine Or.inl ⟨by rfl, ?_⟩
    intro w' hSw
    (try simp only [Ph.pick, List.getD_cons_succ, List.getD_cons_zero] at hSw)
    go_simp
    all_goals (with_reducible rfl)
  · assumption
  clear hOrd
  intro hOrd
  try simp only [Act.put, List.setIfInBounds_toArray, List.set_cons_zero, List.set_cons_succ] at hOrd ⊢
  refine Ph.take (i := 10) (oi := ?_) (v := ?_) (p := 0) ?_ ?_ ?_ ?_ hOrd ?_ ?_ ?_ ?_ ?_ ?_
  rotate_left 2
  · simp only [List.getElem?_toArray, List.getElem?_cons_succ, List.getElem?_cons_zero]; rfl
  · kernel_rfl
  · kernel_rfl
  · kernel_rfl
  · kernel_rfl
  · kernel_rfl
  · exact fun _ _ _ h => h
  · refine Or.inl ⟨by rfl, ?_⟩
    intro w' hSw
    (try simp only [Ph.pick, List.getD_cons_succ, List.getD_cons_zero] at hSw)
    go_simp
    all_goals (with_reducible rfl)
  · assumption
  clear hOrd
  intro hOrd
  try simp only [Act.put, List.setIfInBounds_toArray, List.set_cons_zero, List.set_cons_succ] at hOrd ⊢
  refine Ph.take (i := 11) (oi := ?_) (v := ?_) (p := 0) ?_ ?_ ?_ ?_ hOrd ?_ ?_ ?_ ?_ ?_ ?_
  rotate_left 2
  · simp only [List.getElem?_toArray, List.getElem?_cons_succ, List.getElem?_cons_zero]; rfl
  · kernel_rfl
  · kernel_rfl
  · kernel_rfl
  · kernel_rfl
  · kernel_rfl
  · exact fun _ _ _ h => h
  · refine Or.inl ⟨by rfl, ?_⟩
    intro w' hSw
    (try simp only [Ph.pick, List.getD_cons_succ, List.getD_cons_zero] at hSw)
    go_simp
    all_goals (with_reducible rfl)
  · assumption
  clear hOrd
  intro hOrd
  try simp only [Act.put, List.setIfInBounds_toArray, List.set_cons_zero, List.set_cons_succ] at hOrd ⊢
  refine Ph.alone (i := 12) (o := ?_) (p := 0) ?_ ?_ hOrd ?_ ?_
  rotate_left 2
  · simp only [List.getElem?_toArray, List.getElem?_cons_succ, List.getElem?_cons_zero]; rfl
  rotate_right 1
  · kernel_rfl
  · kernel_rfl
  clear hOrd
  intro K hK
  go_simp
  ((with_reducible refine CPQ.out.mono ?_); rintro e w4 ⟨rfl, i4, f4⟩; have I4 := Lib.hid i4; have F4 := Lib.hid f4; have K4 := Lib.hid (H3.out.hs.fr f4 (fun hF => (H3.out.ne.2 _ (Or.inl hF)).2 rfl)); have S4 := Lib.hid (show (fun w' : World => (∀ i, w'.cell? ⟨Q.s, i, none⟩ = (smC Q m tot)[i]?)) w4 from by rw [HM.out.1]; exact K4.out.rd); clear i4 f4)
  refine hK.out _ _ (Ph.pick0 S4.out) (fun hHeld hOrd => ?_)
  clear hK K
  try simp only [Act.put, List.setIfInBounds_toArray, List.set_cons_zero, List.set_cons_succ] at hOrd ⊢
  refine Ph.take (i := 13) (oi := ?_) (v := ?_) (p := 0) ?_ ?_ ?_ ?_ hOrd ?_ ?_ ?_ ?_ ?_ ?_
  rotate_left 2
  · simp only [List.getElem?_toArray, List.getElem?_cons_succ, List.getElem?_cons_zero]; rfl
  · kernel_rfl
  · kernel_rfl
  · kernel_rfl
  · kernel_rfl
  · kernel_rfl
  · exact fun _ _ _ h => h
  · refine Or.inl ⟨by rfl, ?_⟩
    intro w' hSw
    (try simp only [Ph.pick, List.getD_cons_succ, List.getD_cons_zero] at hSw)
    go_simp
    all_goals (with_reducible rfl)
  · assumption
  clear hOrd
  intro hOrd
  try simp only [Act.put, List.setIfInBounds_toArray, List.set_cons_zero, List.set_cons_succ] at hOrd ⊢
  refine Ph.alone (i := 14) (o := ?_) (p := 0) ?_ ?_ hOrd ?_ ?_
  rotate_left 2
  · simp only [List.getElem?_toArray, List.getElem?_cons_succ, List.getElem?_cons_zero]; rfl
  rotate_right 1
  · kernel_rfl
  · kernel_rfl
  clear hOrd
  intro K hK
  go_simp
  (have S5 := Lib.hid (show (fun w' : World => (∀ i, w'.cell? ⟨Q.s, i, none⟩ = (smC Q m tot)[i]?)) (w4.alloc (.cells #[.int .i64 0, .int .i64 0, .int .i64 (i : Int)] 154)) from by rw [HM.out.1]; exact (K4.out.alloc _).rd))
  refine hK.out _ _ (Ph.pick0 S5.out) (fun hHeld hOrd => ?_)
  clear hK K
  try simp only [Act.put, List.setIfInBounds_toArray, List.set_cons_zero, List.set_cons_succ] at hOrd ⊢
  obtain ⟨R, hg, hl⟩ := H3.out.hg
  have hg4 := hg.fr F4.out (fun hF => (H3.out.ne.2 _ (Or.inl hF)).1 rfl)
  have hg5 := hg4.alloc (.cells #[.int .i64 0, .int .i64 0, .int .i64 (i : Int)] 154)
  have hn5 := heap_alloc_new w4 (.cells #[.int .i64 0, .int .i64 0, .int .i64 (i : Int)] 154)
  have k5 := K4.out.alloc (.cells #[.int .i64 0, .int .i64 0, .int .i64 (i : Int)] 154)
  have f5 : Fr (fun _ => False) w4 (w4.alloc (.cells #[.int .i64 0, .int .i64 0, .int .i64 (i : Int)] 154)) := Fr.of_below ((Below.refl _ _).alloc (Nat.le_refl _) _)
  obtain ⟨nb, hnb⟩ : ∃ z, z = w4.heap.size := ⟨_, rfl⟩
  have hgl : Q.g < nb := by rw [hnb]; exact lt_of_block hg4
  rw [← hnb] at hn5 ⊢
  generalize w4.alloc (.cells #[.int .i64 0, .int .i64 0, .int .i64 (i : Int)] 154) = w5 at hg5 hn5 k5 f5 S5 hHeld ⊢
  have hg5 : Blk w5 Q.g _ _ := hg5
  have hn5 : Blk w5 nb _ #[.int .i64 0, .int .i64 0, .int .i64 (i : Int)] := hn5
  have hmR : m < (L ++ R).length := by rw [hl]; exact HM.out.2
  obtain ⟨z, hz⟩ : ∃ z, (L ++ R)[m]? = some z := ⟨_, List.getElem?_eq_getElem hmR⟩
  have q0 : w5.cell? ⟨Q.g, m * 3, none⟩ = some (.int .i64 z.n) := rws_cell encE_len hg5 hz (j := 0) (by omega)
  have q1 : w5.cell? ⟨Q.g, m * 3 + 1, none⟩ = some (.int .i64 z.e) := rws_cell encE_len hg5 hz (j := 1) (by omega)
  have q2 : w5.cell? ⟨Q.g, m * 3 + 2, none⟩ = some (.int .i64 (z.p : Int)) := rws_cell encE_len hg5 hz (j := 2) (by omega)
  have gw := hg5.wr
  have rn := hn5.rd
  have t1 : m + 1 ≤ Q.N.n := by have := HM.out.2; omega
  have t2 : ((m : Int) + 1 ≤ (Q.N.n : Int)) := by omega
  have nne : Q.g ≠ nb := by omega
  have HNB := Lib.hid (And.intro hnb hgl)
  clear hnb hgl
  have st := rws_store3 encE_len hg5 hmR ⟨s, 0, 0, i⟩ (v0 := .int .i64 0) (v1 := .int .i64 0) (v2 := .int .i64 (i : Int)) rfl
  have g6 : Blk (setObj w5 Q.g (.cells (rws encE ((L ++ R).set m ⟨s, 0, 0, i⟩)).toArray 154 (0, 0))) Q.g 154 (rws encE ((L ++ R).set m ⟨s, 0, 0, i⟩)).toArray := setObj_at (lt_of_block hg5) _
  have f6 : Fr (fun k => k = Q.g) w5 (setObj w5 Q.g (.cells (rws encE ((L ++ R).set m ⟨s, 0, 0, i⟩)).toArray 154 (0, 0))) := Fr.setObj (F := fun k => k = Q.g) (Fr.refl _ _) rfl _
  generalize setObj w5 Q.g (.cells (rws encE ((L ++ R).set m ⟨s, 0, 0, i⟩)).toArray 154 (0, 0)) = w6 at st g6 f6
  have k6 := k5.fr f6 HH.out.ne.1
  rw [← HM.out.1] at k6
  have G6 := Lib.hid g6
  have K6 := Lib.hid k6
  have F46 := Lib.hid f6
  have F5 := Lib.hid f5
  have S6 := Lib.hid (show (fun w' : World => (∀ i, w'.cell? ⟨Q.s, i, none⟩ = (smC Q m tot)[i]?)) w6 from k6.rd)
  have HRR := Lib.hid (And.intro hl hmR)
  clear g6 f6 k6 hl hg hg4 hg5 k5 f5 hn5 hz hmR
  refine Ph.alone (i := 15) (o := ?_) (p := 0) ?_ ?_ hOrd ?_ ?_
  rotate_left 2
  · simp only [List.getElem?_toArray, List.getElem?_cons_succ, List.getElem?_cons_zero]; rfl
  rotate_right 1
  · kernel_rfl
  · kernel_rfl
  clear hOrd
  intro K hK
  go_simp
  skip
  refine hK.out _ _ (Ph.pick0 S6.out) (fun hHeld hOrd => ?_)
  clear hK K
  try simp only [Act.put, List.setIfInBounds_toArray, List.set_cons_zero, List.set_cons_succ] at hOrd ⊢
  try rw [st]
  have kr6 := K6.out.rd
  have kw6 := K6.out.wr
  refine Ph.take (i := 16) (oi := ?_) (v := ?_) (p := 0) ?_ ?_ ?_ ?_ hOrd ?_ ?_ ?_ ?_ ?_ ?_
  rotate_left 2
  · simp only [List.getElem?_toArray, List.getElem?_cons_succ, List.getElem?_cons_zero]; rfl
  · kernel_rfl
  · kernel_rfl
  · kernel_rfl
  · kernel_rfl
  · kernel_rfl
  · exact fun _ _ _ h => h
  · refine Or.inl ⟨by rfl, ?_⟩
    intro w' hSw
    (try simp only [Ph.pick, List.getD_cons_succ, List.getD_cons_zero] at hSw)
    go_simp
    all_goals (with_reducible rfl)
  · assumption
  clear hOrd
  intro hOrd
  try simp only [Act.put, List.setIfInBounds_toArray, List.set_cons_zero, List.set_cons_succ] at hOrd ⊢
  refine Ph.take (i := 17) (oi := ?_) (v := ?_) (p := 0) ?_ ?_ ?_ ?_ hOrd ?_ ?_ ?_ ?_ ?_ ?_
  rotate_left 2
  · simp only [List.getElem?_toArray, List.getElem?_cons_succ, List.getElem?_cons_zero]; rfl
  · kernel_rfl
  · kernel_rfl
  · kernel_rfl
  · kernel_rfl
  · kernel_rfl
  · exact fun _ _ _ h => h
  · refine Or.inl ⟨by rfl, ?_⟩
    intro w' hSw
    (try simp only [Ph.pick, List.getD_cons_succ, List.getD_cons_zero] at hSw)
    go_simp
    all_goals (with_reducible rfl)
  · assumption
  clear hOrd
  intro hOrd
  try simp only [Act.put, List.setIfInBounds_toArray, List.set_cons_zero, List.set_cons_succ] at hOrd ⊢
  refine Ph.alone (i := 18) (o := ?_) (p := 1) ?_ ?_ hOrd ?_ ?_
  rotate_left 2
  · simp only [List.getElem?_toArray, List.getElem?_cons_succ, List.getElem?_cons_zero]; rfl
  rotate_right 1
  · kernel_rfl
  · kernel_rfl
  clear hOrd
  intro K hK
  go_simp
  skip
  refine hK.out _ _ (Ph.pick1 trivial) (fun hHeld hOrd => ?_)
  clear hK K
  try simp only [Act.put, List.setIfInBounds_toArray, List.set_cons_zero, List.set_cons_succ] at hOrd ⊢
  refine Ph.done (by kernel_rfl) ?_ _
  clear hHeld hOrd st q0 q1 q2 gw rn
  obtain ⟨w7, e7, r7, f7, s7⟩ := G.box_set K6.out 2 (.slice (some ⟨Q.g, 0, none⟩) (m + 1) Q.N.n) (smC Q (m + 1) tot) rfl
  have e7' := e7
  try rw [e7]
  have R7 := Lib.hid r7
  have F7 := Lib.hid f7
  have k7 := r7.rd
  have e8 : IntKind.i64.wrap (((m + 1 : Nat) : Int) - 1) = (m : Int) := by rw [IntKind.wrap_i64]; omega
  clear e7 e7' r7 f7 s7 kr6 kw6
  go_wp2
  go_ret
  have hh := H3.out
  have f47 : Fr Q.F w3 w7 := (((F4.out.mono (fun k hk => Or.inl hk)).trans (F5.out.mono (fun k hk => hk.elim))).trans (F46.out.mono (fun k hk => Or.inr (Or.inr hk)))).trans (F7.out.mono (fun k hk => Or.inr (Or.inl hk)))
  have hset : (L ++ R).set m ⟨s, 0, 0, i⟩ = (L ++ [⟨s, 0, 0, i⟩]) ++ R.drop 1 := by
    rw [HM.out.1, List.set_append_right _ _ (Nat.le_refl _), Nat.sub_self]
    cases R with
    | nil => have := HRR.out.2; rw [HM.out.1, List.append_nil] at this; omega
    | cons r R => simp
  refine ⟨rfl, ⟨i, σ.on fl i s, ⟨by rw [List.length_append, ← HM.out.1]; exact R7.out, ⟨R.drop 1, by rw [← hset]; exact G6.out.fr F7.out (fun e => hh.ne.1 e.symm), by rw [← hset, List.length_set]; exact HRR.out.1⟩, ((I4.out.fr F5.out (fun _ _ => id)).fr F46.out (fun k hk e => (hh.ne.2 k hk).1 e)).fr F7.out (fun k hk e => (hh.ne.2 k hk).2 e), hh.n1, hh.ne, HF.out⟩⟩, (Fr.of_below B3.out).trans f47⟩
end
end Go.Proofs.YtbgcpljekcagiaaGreat
/- The contracts of layer 8 (summary): enter, of a full one. -/
namespace Go.Proofs.YtbgcpljekcagiaaGreat
set_option linter.unusedSimpArgs false
set_option linter.unusedVariables false
set_option maxRecDepth 100000
open Go.ChangeShapes Go.WideShapes Go.ChangeAt Go.RowKit
section
variable {w W : World} {Q : SmN} {L M : List Ent} {tot : Int} {σ : KSt}
set_option maxRecDepth 100000 in
set_option maxHeartbeats 4000000 in
theorem smenter_full (s : ByteArray) (x : Ent) (hs : s.size ≤ 64) (w : World) (h : SmAt w Q (M ++ [x]) tot σ) (hk : ∀ y ∈ M ++ [x], y.k ≠ s) (hm : M.length + 1 = Q.N.n) : Calls Tryz.prog 96 #[.pointer (some ⟨Q.s, 0, none⟩), .string s] w fun e w' => e = .returned (.int .i64 (M.length : Int)) ∧ (∃ i σ', SmAt w' Q (M ++ [⟨s, x.n, x.n, i⟩]) tot σ') ∧ Fr Q.F w w' := by
  obtain ⟨m, hmm⟩ : ∃ m, m = M.length := ⟨_, rfl⟩
  have CL := Lib.hid (smleast_any w h)
  have hlen : (M ++ [x]).length = Q.N.n := by rw [List.length_append]; exact hm
  rw [show leastE Q.N.n (M ++ [x]) = x.n from by unfold leastE; rw [if_neg (by omega)]; simp] at CL
  obtain ⟨fl, i, hfl, hpi⟩ : ∃ fl i, fl = σ.fl ∧ i = x.p := ⟨_, _, rfl, rfl⟩
  obtain ⟨σ1, hσ⟩ : ∃ z, z = σ.off x.p := ⟨_, rfl⟩
  have hok := h.ok.drop
  rw [← hσ] at hok
  have hf1 : σ1.fl = fl ++ [i] := by rw [hσ, hfl, hpi]; rfl
  have hK1 : σ1.K i = none := by rw [hσ, hpi]; exact if_pos rfl
  have hput : σ1.put Q.N.n s = (σ1.on fl i s, some i) := by
    unfold KSt.put
    rw [hok.no (fun y hy => hk y (List.mem_append_left _ hy))]
    simp only [if_neg (show ¬ 64 < s.size by omega)]
    rw [hf1]
    simp [KSt.on]
  have CP := Lib.hid (fun wx (hi : IdxAt wx Q.N σ1) => ixput_any s (by unfold maxLen; omega) wx hi)
  rw [hput] at CP
  have hbd := h.ok.bd x (by simp)
  have HF := Lib.hid (show SmOK Q.N.n (M ++ [⟨s, x.n, x.n, i⟩]) tot (σ1.on fl i s) from hok.put hf1 hK1 ⟨hbd.1, hbd.2.1⟩ ⟨hbd.1, hbd.2.1⟩)
  have CD := Lib.hid (fun wx (hb : Below w.heap.size w wx) => smdrop_any x wx (h.keep hb))
  have HH := Lib.hid h
  have CN := Lib.hid (fun wx (hb : Below w.heap.size w wx) => len_any wx ((h.ix.keep hb).ks))
  have hn := h.n1
  have HL := Lib.hid hlen
  rw [← hmm] at hm ⊢
  have HM := Lib.hid (And.intro hmm (show m < Q.N.n by omega))
  have HSG := Lib.hid hσ
  have b1 : ((Q.N.n : Int) == (Q.N.n : Int)) = true := by simp
  clear h hk hfl hput hK1 hf1 hok hbd hlen hpi hmm hσ hm
  go_enter Tryz.func96, Tryz.ntmps96
  go_upto_region 2 with (go_at_call 125; ((with_reducible refine CL.out.mono ?_); rintro e w1 ⟨rfl, b⟩; have B1 := Lib.hid b; clear b))
  have HS := Lib.hid (show ∀ wx, Below w.heap.size w wx → (fun w' : World => (∀ i, w'.cell? ⟨Q.s, i, none⟩ = (smC Q Q.N.n tot)[i]?)) wx from fun wx hb => by have := (HH.out.keep hb).hs.rd; rw [HL.out] at this; exact this)
  have B2 := Lib.hid (show Below w.heap.size w w1.drew from below_draws B1.out 1)
  refine wp_region_held_drew (S := (fun w' : World => (∀ i, w'.cell? ⟨Q.s, i, none⟩ = (smC Q Q.N.n tot)[i]?))) (by kernel_rfl) (HS.out _ B2.out) (fun hHeld => ?_)
  refine wpAnyH_take (i := 0) (oi := ?_) (v := ?_) ?_ ?_ ?_ ?_ ?_ ?_ ?_ ?_
  rotate_left 2
  · simp only [List.getElem?_toArray, List.getElem?_cons_succ, List.getElem?_cons_zero]; rfl
  · kernel_rfl
  · kernel_rfl
  · kernel_rfl
  · exact fun _ _ _ h => h
  · refine Or.inl ⟨by rfl, ?_⟩
    intro w' hSw
    (try dsimp only at hSw)
    go_simp
    all_goals (with_reducible rfl)
  · assumption
  try simp only [Act.put, List.setIfInBounds_toArray, List.set_cons_zero, List.set_cons_succ]
  refine wpAnyH_take (i := 1) (oi := ?_) (v := ?_) ?_ ?_ ?_ ?_ ?_ ?_ ?_ ?_
  rotate_left 2
  · simp only [List.getElem?_toArray, List.getElem?_cons_succ, List.getElem?_cons_zero]; rfl
  · kernel_rfl
  · kernel_rfl
  · kernel_rfl
  · exact fun _ _ _ h => h
  · refine Or.inl ⟨by rfl, ?_⟩
    intro w' hSw
    (try dsimp only at hSw)
    go_simp
    all_goals (with_reducible rfl)
  · assumption
  try simp only [Act.put, List.setIfInBounds_toArray, List.set_cons_zero, List.set_cons_succ]
  refine wpAnyH_take (i := 2) (oi := ?_) (v := ?_) ?_ ?_ ?_ ?_ ?_ ?_ ?_ ?_
  rotate_left 2
  · simp only [List.getElem?_toArray, List.getElem?_cons_succ, List.getElem?_cons_zero]; rfl
  · kernel_rfl
  · kernel_rfl
  · kernel_rfl
  · exact fun _ _ _ h => h
  · refine Or.inl ⟨by rfl, ?_⟩
    intro w' hSw
    (try dsimp only at hSw)
    go_simp
    all_goals (with_reducible rfl)
  · assumption
  try simp only [Act.put, List.setIfInBounds_toArray, List.set_cons_zero, List.set_cons_succ]
  refine wpAnyH_take (i := 3) (oi := ?_) (v := ?_) ?_ ?_ ?_ ?_ ?_ ?_ ?_ ?_
  rotate_left 2
  · simp only [List.getElem?_toArray, List.getElem?_cons_succ, List.getElem?_cons_zero]; rfl
  · kernel_rfl
  · kernel_rfl
  · kernel_rfl
  · exact fun _ _ _ h => h
  · refine Or.inl ⟨by rfl, ?_⟩
    intro w' hSw
    (try dsimp only at hSw)
    go_simp
    all_goals (with_reducible rfl)
  · assumption
  try simp only [Act.put, List.setIfInBounds_toArray, List.set_cons_zero, List.set_cons_succ]
  refine wpAnyH_take (i := 4) (oi := ?_) (v := ?_) ?_ ?_ ?_ ?_ ?_ ?_ ?_ ?_
  rotate_left 2
  · simp only [List.getElem?_toArray, List.getElem?_cons_succ, List.getElem?_cons_zero]; rfl
  · kernel_rfl
  · kernel_rfl
  · kernel_rfl
  · exact fun _ _ _ h => h
  · refine Or.inl ⟨by rfl, ?_⟩
    intro w' hSw
    (try dsimp only at hSw)
    go_simp
    all_goals (with_reducible rfl)
  · assumption
  try simp only [Act.put, List.setIfInBounds_toArray, List.set_cons_zero, List.set_cons_succ]
  refine wpAnyH_take (i := 5) (oi := ?_) (v := ?_) ?_ ?_ ?_ ?_ ?_ ?_ ?_ ?_
  rotate_left 2
  · simp only [List.getElem?_toArray, List.getElem?_cons_succ, List.getElem?_cons_zero]; rfl
  · kernel_rfl
  · kernel_rfl
  · kernel_rfl
  · exact fun _ _ _ h => h
  · refine Or.inl ⟨by rfl, ?_⟩
    intro w' hSw
    (try dsimp only at hSw)
    go_simp
    all_goals (with_reducible rfl)
  · assumption
  try simp only [Act.put, List.setIfInBounds_toArray, List.set_cons_zero, List.set_cons_succ]
  refine wpAnyH_take (i := 6) (oi := ?_) (v := ?_) ?_ ?_ ?_ ?_ ?_ ?_ ?_ ?_
  rotate_left 2
  · simp only [List.getElem?_toArray, List.getElem?_cons_succ, List.getElem?_cons_zero]; rfl
  · kernel_rfl
  · kernel_rfl
  · kernel_rfl
  · exact fun _ _ _ h => h
  · refine Or.inl ⟨by rfl, ?_⟩
    intro w' hSw
    (try dsimp only at hSw)
    go_simp
    all_goals (with_reducible rfl)
  · assumption
  try simp only [Act.put, List.setIfInBounds_toArray, List.set_cons_zero, List.set_cons_succ]
  refine wpAnyH_take (i := 7) (oi := ?_) (v := ?_) ?_ ?_ ?_ ?_ ?_ ?_ ?_ ?_
  rotate_left 2
  · simp only [List.getElem?_toArray, List.getElem?_cons_succ, List.getElem?_cons_zero]; rfl
  · kernel_rfl
  · kernel_rfl
  · kernel_rfl
  · exact fun _ _ _ h => h
  · refine Or.inl ⟨by rfl, ?_⟩
    intro w' hSw
    (try dsimp only at hSw)
    go_simp
    all_goals (with_reducible rfl)
  · assumption
  try simp only [Act.put, List.setIfInBounds_toArray, List.set_cons_zero, List.set_cons_succ]
  refine wpAnyH_take (i := 8) (oi := ?_) (v := ?_) ?_ ?_ ?_ ?_ ?_ ?_ ?_ ?_
  rotate_left 2
  · simp only [List.getElem?_toArray, List.getElem?_cons_succ, List.getElem?_cons_zero]; rfl
  · kernel_rfl
  · kernel_rfl
  · kernel_rfl
  · exact fun _ _ _ h => h
  · refine Or.inl ⟨by rfl, ?_⟩
    intro w' hSw
    (try dsimp only at hSw)
    go_simp
    all_goals (with_reducible rfl)
  · assumption
  try simp only [Act.put, List.setIfInBounds_toArray, List.set_cons_zero, List.set_cons_succ]
  refine wpAnyH_ready (rs := [9]) (by kernel_rfl) (by simp) ?_
  refine AllReadyH.cons (o := ?_) ?_ ?_ ?_
  rotate_left 1
  · simp only [List.getElem?_toArray, List.getElem?_cons_succ, List.getElem?_cons_zero]; rfl
  rotate_left 1
  · exact AllReadyH.nil
  intro K hK
  go_simp
  ((with_reducible refine (CN.out w1.drew B2.out).mono ?_); rintro e wx ⟨rfl, rfl⟩)
  refine hK.out _ _ hHeld (fun hHeld => ?_)
  clear hK K
  try simp only [Act.put, List.setIfInBounds_toArray, List.set_cons_zero, List.set_cons_succ]
  refine wpAnyH_take (i := 10) (oi := ?_) (v := ?_) ?_ ?_ ?_ ?_ ?_ ?_ ?_ ?_
  rotate_left 2
  · simp only [List.getElem?_toArray, List.getElem?_cons_succ, List.getElem?_cons_zero]; rfl
  · kernel_rfl
  · kernel_rfl
  · kernel_rfl
  · exact fun _ _ _ h => h
  · refine Or.inl ⟨by rfl, ?_⟩
    intro w' hSw
    (try dsimp only at hSw)
    go_simp
    all_goals (with_reducible rfl)
  · assumption
  try simp only [Act.put, List.setIfInBounds_toArray, List.set_cons_zero, List.set_cons_succ]
  refine wpAnyH_done (by kernel_rfl) ?_ _
  clear hHeld HS
  go_upto_region 4 with (go_at_call 124; ((with_reducible refine (CD.out _ B2.out).mono ?_); rintro e w2 ⟨rfl, h2, f2⟩; have H2 := Lib.hid h2; have F2 := Lib.hid f2; clear h2 f2))
  rw [← HSG.out] at H2
  have CP := Lib.hid (fun wx (hb : Below w2.heap.size w2 wx) => CP.out wx (H2.out.ix.keep hb))
  have HS := Lib.hid (show ∀ wx, Below w2.heap.size w2 wx → (fun w' : World => (∀ i, w'.cell? ⟨Q.s, i, none⟩ = (smC Q m tot)[i]?)) wx from fun wx hb => by rw [HM.out.1]; exact (H2.out.keep hb).hs.rd)
  have B3 := Lib.hid (show Below w2.heap.size w2 w2.drew from below_draws (Below.refl _ _) 1)
  obtain ⟨w3, hw3⟩ : ∃ z, z = w2.drew := ⟨_, rfl⟩
  refine Ph.start [18] (Ph.pick [(fun w' : World => (∀ i, w'.cell? ⟨Q.s, i, none⟩ = (smC Q m tot)[i]?)), (fun _ : World => True)]) (by kernel_rfl) (Ph.pick0 (HS.out _ B3.out)) (fun hHeld hOrd => ?_)
  rw [← hw3] at hHeld ⊢
  have B3 : Hid (Below w2.heap.size w2 w3) := Lib.hid (by rw [hw3]; exact B3.out)
  clear hw3
  have CPQ := Lib.hid (show Calls Tryz.prog 126 #[.pointer (some ⟨Q.N.x, 0, none⟩), .string s] w3 (fun e w' => e = .returned (.int .i64 (i : Int)) ∧ IdxAt w' Q.N (σ1.on fl i s) ∧ Fr Q.N.F w3 w') from CP.out _ B3.out)
  have H3 := Lib.hid (H2.out.keep B3.out)
  refine Ph.take (i := 0) (oi := ?_) (v := ?_) (p := 0) ?_ ?_ ?_ ?_ hOrd ?_ ?_ ?_ ?_ ?_ ?_
  rotate_left 2
  · simp only [List.getElem?_toArray, List.getElem?_cons_succ, List.getElem?_cons_zero]; rfl
  · kernel_rfl
  · kernel_rfl
  · kernel_rfl
  · kernel_rfl
  · kernel_rfl
  · exact fun _ _ _ h => h
  · refine Or.inl ⟨by rfl, ?_⟩
    intro w' hSw
    (try simp only [Ph.pick, List.getD_cons_succ, List.getD_cons_zero] at hSw)
    go_simp
    all_goals (with_reducible rfl)
  · assumption
  clear hOrd
  intro hOrd
  try simp only [Act.put, List.setIfInBounds_toArray, List.set_cons_zero, List.set_cons_succ] at hOrd ⊢
  refine Ph.take (i := 1) (oi := ?_) (v := ?_) (p := 0) ?_ ?_ ?_ ?_ hOrd ?_ ?_ ?_ ?_ ?_ ?_
  rotate_left 2
  · simp only [List.getElem?_toArray, List.getElem?_cons_succ, List.getElem?_cons_zero]; rfl
  · kernel_rfl
  · kernel_rfl
  · kernel_rfl
  · kernel_rfl
  · kernel_rfl
  · exact fun _ _ _ h => h
  · refine Or.inl ⟨by rfl, ?_⟩
    intro w' hSw
    (try simp only [Ph.pick, List.getD_cons_succ, List.getD_cons_zero] at hSw)
    go_simp
    all_goals (with_reducible rfl)
  · assumption
  clear hOrd
  intro hOrd
  try simp only [Act.put, List.setIfInBounds_toArray, List.set_cons_zero, List.set_cons_succ] at hOrd ⊢
  refine Ph.take (i := 2) (oi := ?_) (v := ?_) (p := 0) ?_ ?_ ?_ ?_ hOrd ?_ ?_ ?_ ?_ ?_ ?_
  rotate_left 2
  · simp only [List.getElem?_toArray, List.getElem?_cons_succ, List.getElem?_cons_zero]; rfl
  · kernel_rfl
  · kernel_rfl
  · kernel_rfl
  · kernel_rfl
  · kernel_rfl
  · exact fun _ _ _ h => h
  · refine Or.inl ⟨by rfl, ?_⟩
    intro w' hSw
    (try simp only [Ph.pick, List.getD_cons_succ, List.getD_cons_zero] at hSw)
    go_simp
    all_goals (with_reducible rfl)
  · assumption
  clear hOrd
  intro hOrd
  try simp only [Act.put, List.setIfInBounds_toArray, List.set_cons_zero, List.set_cons_succ] at hOrd ⊢
  refine Ph.take (i := 3) (oi := ?_) (v := ?_) (p := 0) ?_ ?_ ?_ ?_ hOrd ?_ ?_ ?_ ?_ ?_ ?_
  rotate_left 2
  · simp only [List.getElem?_toArray, List.getElem?_cons_succ, List.getElem?_cons_zero]; rfl
  · kernel_rfl
  · kernel_rfl
  · kernel_rfl
  · kernel_rfl
  · kernel_rfl
  · exact fun _ _ _ h => h
  · refine Or.inl ⟨by rfl, ?_⟩
    intro w' hSw
    (try simp only [Ph.pick, List.getD_cons_succ, List.getD_cons_zero] at hSw)
    go_simp
    all_goals (with_reducible rfl)
  · assumption
  clear hOrd
  intro hOrd
  try simp only [Act.put, List.setIfInBounds_toArray, List.set_cons_zero, List.set_cons_succ] at hOrd ⊢
  refine Ph.take (i := 4) (oi := ?_) (v := ?_) (p := 0) ?_ ?_ ?_ ?_ hOrd ?_ ?_ ?_ ?_ ?_ ?_
  rotate_left 2
  · simp only [List.getElem?_toArray, List.getElem?_cons_succ, List.getElem?_cons_zero]; rfl
  · kernel_rfl
  · kernel_rfl
  · kernel_rfl
  · kernel_rfl
  · kernel_rfl
  · exact fun _ _ _ h => h
  · refine Or.inl ⟨by rfl, ?_⟩
    intro w' hSw
    (try simp only [Ph.pick, List.getD_cons_succ, List.getD_cons_zero] at hSw)
    go_simp
    all_goals (with_reducible rfl)
  · assumption
  clear hOrd
  intro hOrd
  try simp only [Act.put, List.setIfInBounds_toArray, List.set_cons_zero, List.set_cons_succ] at hOrd ⊢
  refine Ph.take (i := 5) (oi := ?_) (v := ?_) (p := 0) ?_ ?_ ?_ ?_ hOrd ?_ ?_ ?_ ?_ ?_ ?_
  rotate_left 2
  · simp only [List.getElem?_toArray, List.getElem?_cons_succ, List.getElem?_cons_zero]; rfl
  · kernel_rfl
  · kernel_rfl
  · kernel_rfl
  · kernel_rfl
  · kernel_rfl
  · exact fun _ _ _ h => h
  · refine Or.inl ⟨by rfl, ?_⟩
    intro w' hSw
    (try simp only [Ph.pick, List.getD_cons_succ, List.getD_cons_zero] at hSw)
    go_simp
    all_goals (with_reducible rfl)
  · assumption
  clear hOrd
  intro hOrd
  try simp only [Act.put, List.setIfInBounds_toArray, List.set_cons_zero, List.set_cons_succ] at hOrd ⊢
  refine Ph.take (i := 6) (oi := ?_) (v := ?_) (p := 0) ?_ ?_ ?_ ?_ hOrd ?_ ?_ ?_ ?_ ?_ ?_
  rotate_left 2
  · simp only [List.getElem?_toArray, List.getElem?_cons_succ, List.getElem?_cons_zero]; rfl
  · kernel_rfl
  · kernel_rfl
  · kernel_rfl
  · kernel_rfl
  · kernel_rfl
  · exact fun _ _ _ h => h
  · refine Or.inl ⟨by rfl, ?_⟩
    intro w' hSw
    (try simp only [Ph.pick, List.getD_cons_succ, List.getD_cons_zero] at hSw)
    go_simp
    all_goals (with_reducible rfl)
  · assumption
  clear hOrd
  intro hOrd
  try simp only [Act.put, List.setIfInBounds_toArray, List.set_cons_zero, List.set_cons_succ] at hOrd ⊢
  refine Ph.take (i := 7) (oi := ?_) (v := ?_) (p := 0) ?_ ?_ ?_ ?_ hOrd ?_ ?_ ?_ ?_ ?_ ?_
  rotate_left 2
  · simp only [List.getElem?_toArray, List.getElem?_cons_succ, List.getElem?_cons_zero]; rfl
  · kernel_rfl
  · kernel_rfl
  · kernel_rfl
  · kernel_rfl
  · kernel_rfl
  · exact fun _ _ _ h => h
  · refine Or.inl ⟨by rfl, ?_⟩
    intro w' hSw
    (try simp only [Ph.pick, List.getD_cons_succ, List.getD_cons_zero] at hSw)
    go_simp
    all_goals (with_reducible rfl)
  · assumption
  clear hOrd
  intro hOrd
  try simp only [Act.put, List.setIfInBounds_toArray, List.set_cons_zero, List.set_cons_succ] at hOrd ⊢
  refine Ph.take (i := 8) (oi := ?_) (v := ?_) (p := 0) ?_ ?_ ?_ ?_ hOrd ?_ ?_ ?_ ?_ ?_ ?_
  rotate_left 2
  · simp only [List.getElem?_toArray, List.getElem?_cons_succ, List.getElem?_cons_zero]; rfl
  · kernel_rfl
  · kernel_rfl
  · kernel_rfl
  · kernel_rfl
  · kernel_rfl
  · exact fun _ _ _ h => h
  · refine Or.inl ⟨by rfl, ?_⟩
    intro w' hSw
    (try simp only [Ph.pick, List.getD_cons_succ, List.getD_cons_zero] at hSw)
    go_simp
    all_goals (with_reducible rfl)
  · assumption
  clear hOrd
  intro hOrd
  try simp only [Act.put, List.setIfInBounds_toArray, List.set_cons_zero, List.set_cons_succ] at hOrd ⊢
  refine Ph.take (i := 9) (oi := ?_) (v := ?_) (p := 0) ?_ ?_ ?_ ?_ hOrd ?_ ?_ ?_ ?_ ?_ ?_
  rotate_left 2
  · simp only [List.getElem?_toArray, List.getElem?_cons_succ, List.getElem?_cons_zero]; rfl
  · kernel_rfl
  · kernel_rfl
  · kernel_rfl
  · kernel_rfl
  · kernel_rfl
  · exact fun _ _ _ h => h
  · refine Or.inl ⟨by rfl, ?_⟩
    intro w' hSw
    (try simp only [Ph.pick, List.getD_cons_succ, List.getD_cons_zero] at hSw)
    go_simp
    all_goals (with_reducible rfl)
  · assumption
  clear hOrd
  intro hOrd
  try simp only [Act.put, List.setIfInBounds_toArray, List.set_cons_zero, List.set_cons_succ] at hOrd ⊢
  refine Ph.take (i := 10) (oi := ?_) (v := ?_) (p := 0) ?_ ?_ ?_ ?_ hOrd ?_ ?_ ?_ ?_ ?_ ?_
  rotate_left 2
  · simp only [List.getElem?_toArray, List.getElem?_cons_succ, List.getElem?_cons_zero]; rfl
  · kernel_rfl
  · kernel_rfl
  · kernel_rfl
  · kernel_rfl
  · kernel_rfl
  · exact fun _ _ _ h => h
  · refine Or.inl ⟨by rfl, ?_⟩
    intro w' hSw
    (try simp only [Ph.pick, List.getD_cons_succ, List.getD_cons_zero] at hSw)
    go_simp
    all_goals (with_reducible rfl)
  · assumption
  clear hOrd
  intro hOrd
  try simp only [Act.put, List.setIfInBounds_toArray, List.set_cons_zero, List.set_cons_succ] at hOrd ⊢
  refine Ph.take (i := 11) (oi := ?_) (v := ?_) (p := 0) ?_ ?_ ?_ ?_ hOrd ?_ ?_ ?_ ?_ ?_ ?_
  rotate_left 2
  · simp only [List.getElem?_toArray, List.getElem?_cons_succ, List.getElem?_cons_zero]; rfl
  · kernel_rfl
  · kernel_rfl
  · kernel_rfl
  · kernel_rfl
  · kernel_rfl
  · exact fun _ _ _ h => h
  · refine Or.inl ⟨by rfl, ?_⟩
    intro w' hSw
    (try simp only [Ph.pick, List.getD_cons_succ, List.getD_cons_zero] at hSw)
    go_simp
    all_goals (with_reducible rfl)
  · assumption
  clear hOrd
  intro hOrd
  try simp only [Act.put, List.setIfInBounds_toArray, List.set_cons_zero, List.set_cons_succ] at hOrd ⊢
  refine Ph.alone (i := 12) (o := ?_) (p := 0) ?_ ?_ hOrd ?_ ?_
  rotate_left 2
  · simp only [List.getElem?_toArray, List.getElem?_cons_succ, List.getElem?_cons_zero]; rfl
  rotate_right 1
  · kernel_rfl
  · kernel_rfl
  clear hOrd
  intro K hK
  go_simp
  ((with_reducible refine CPQ.out.mono ?_); rintro e w4 ⟨rfl, i4, f4⟩; have I4 := Lib.hid i4; have F4 := Lib.hid f4; have K4 := Lib.hid (H3.out.hs.fr f4 (fun hF => (H3.out.ne.2 _ (Or.inl hF)).2 rfl)); have S4 := Lib.hid (show (fun w' : World => (∀ i, w'.cell? ⟨Q.s, i, none⟩ = (smC Q m tot)[i]?)) w4 from by rw [HM.out.1]; exact K4.out.rd); clear i4 f4)
  refine hK.out _ _ (Ph.pick0 S4.out) (fun hHeld hOrd => ?_)
  clear hK K
  try simp only [Act.put, List.setIfInBounds_toArray, List.set_cons_zero, List.set_cons_succ] at hOrd ⊢
  refine Ph.take (i := 13) (oi := ?_) (v := ?_) (p := 0) ?_ ?_ ?_ ?_ hOrd ?_ ?_ ?_ ?_ ?_ ?_
  rotate_left 2
  · simp only [List.getElem?_toArray, List.getElem?_cons_succ, List.getElem?_cons_zero]; rfl
  · kernel_rfl
  · kernel_rfl
  · kernel_rfl
  · kernel_rfl
  · kernel_rfl
  · exact fun _ _ _ h => h
  · refine Or.inl ⟨by rfl, ?_⟩
    intro w' hSw
    (try simp only [Ph.pick, List.getD_cons_succ, List.getD_cons_zero] at hSw)
    go_simp
    all_goals (with_reducible rfl)
  · assumption
  clear hOrd
  intro hOrd
  try simp only [Act.put, List.setIfInBounds_toArray, List.set_cons_zero, List.set_cons_succ] at hOrd ⊢
  refine Ph.alone (i := 14) (o := ?_) (p := 0) ?_ ?_ hOrd ?_ ?_
  rotate_left 2
  · simp only [List.getElem?_toArray, List.getElem?_cons_succ, List.getElem?_cons_zero]; rfl
  rotate_right 1
  · kernel_rfl
  · kernel_rfl
  clear hOrd
  intro K hK
  go_simp
  (have S5 := Lib.hid (show (fun w' : World => (∀ i, w'.cell? ⟨Q.s, i, none⟩ = (smC Q m tot)[i]?)) (w4.alloc (.cells #[.int .i64 x.n, .int .i64 x.n, .int .i64 (i : Int)] 154)) from by rw [HM.out.1]; exact (K4.out.alloc _).rd))
  refine hK.out _ _ (Ph.pick0 S5.out) (fun hHeld hOrd => ?_)
  clear hK K
  try simp only [Act.put, List.setIfInBounds_toArray, List.set_cons_zero, List.set_cons_succ] at hOrd ⊢
  obtain ⟨R, hg, hl⟩ := H3.out.hg
  have hg4 := hg.fr F4.out (fun hF => (H3.out.ne.2 _ (Or.inl hF)).1 rfl)
  have hg5 := hg4.alloc (.cells #[.int .i64 x.n, .int .i64 x.n, .int .i64 (i : Int)] 154)
  have hn5 := heap_alloc_new w4 (.cells #[.int .i64 x.n, .int .i64 x.n, .int .i64 (i : Int)] 154)
  have k5 := K4.out.alloc (.cells #[.int .i64 x.n, .int .i64 x.n, .int .i64 (i : Int)] 154)
  have f5 : Fr (fun _ => False) w4 (w4.alloc (.cells #[.int .i64 x.n, .int .i64 x.n, .int .i64 (i : Int)] 154)) := Fr.of_below ((Below.refl _ _).alloc (Nat.le_refl _) _)
  obtain ⟨nb, hnb⟩ : ∃ z, z = w4.heap.size := ⟨_, rfl⟩
  have hgl : Q.g < nb := by rw [hnb]; exact lt_of_block hg4
  rw [← hnb] at hn5 ⊢
  generalize w4.alloc (.cells #[.int .i64 x.n, .int .i64 x.n, .int .i64 (i : Int)] 154) = w5 at hg5 hn5 k5 f5 S5 hHeld ⊢
  have hg5 : Blk w5 Q.g _ _ := hg5
  have hn5 : Blk w5 nb _ #[.int .i64 x.n, .int .i64 x.n, .int .i64 (i : Int)] := hn5
  have hmR : m < (M ++ R).length := by rw [hl]; exact HM.out.2
  obtain ⟨z, hz⟩ : ∃ z, (M ++ R)[m]? = some z := ⟨_, List.getElem?_eq_getElem hmR⟩
  have q0 : w5.cell? ⟨Q.g, m * 3, none⟩ = some (.int .i64 z.n) := rws_cell encE_len hg5 hz (j := 0) (by omega)
  have q1 : w5.cell? ⟨Q.g, m * 3 + 1, none⟩ = some (.int .i64 z.e) := rws_cell encE_len hg5 hz (j := 1) (by omega)
  have q2 : w5.cell? ⟨Q.g, m * 3 + 2, none⟩ = some (.int .i64 (z.p : Int)) := rws_cell encE_len hg5 hz (j := 2) (by omega)
  have gw := hg5.wr
  have rn := hn5.rd
  have t1 : m + 1 ≤ Q.N.n := by have := HM.out.2; omega
  have t2 : ((m : Int) + 1 ≤ (Q.N.n : Int)) := by omega
  have nne : Q.g ≠ nb := by omega
  have HNB := Lib.hid (And.intro hnb hgl)
  clear hnb hgl
  have st := rws_store3 encE_len hg5 hmR ⟨s, x.n, x.n, i⟩ (v0 := .int .i64 x.n) (v1 := .int .i64 x.n) (v2 := .int .i64 (i : Int)) rfl
  have g6 : Blk (setObj w5 Q.g (.cells (rws encE ((M ++ R).set m ⟨s, x.n, x.n, i⟩)).toArray 154 (0, 0))) Q.g 154 (rws encE ((M ++ R).set m ⟨s, x.n, x.n, i⟩)).toArray := setObj_at (lt_of_block hg5) _
  have f6 : Fr (fun k => k = Q.g) w5 (setObj w5 Q.g (.cells (rws encE ((M ++ R).set m ⟨s, x.n, x.n, i⟩)).toArray 154 (0, 0))) := Fr.setObj (F := fun k => k = Q.g) (Fr.refl _ _) rfl _
  generalize setObj w5 Q.g (.cells (rws encE ((M ++ R).set m ⟨s, x.n, x.n, i⟩)).toArray 154 (0, 0)) = w6 at st g6 f6
  have k6 := k5.fr f6 H2.out.ne.1
  rw [← HM.out.1] at k6
  have G6 := Lib.hid g6
  have K6 := Lib.hid k6
  have F46 := Lib.hid f6
  have F5 := Lib.hid f5
  have S6 := Lib.hid (show (fun w' : World => (∀ i, w'.cell? ⟨Q.s, i, none⟩ = (smC Q m tot)[i]?)) w6 from k6.rd)
  have HRR := Lib.hid (And.intro hl hmR)
  clear g6 f6 k6 hl hg hg4 hg5 k5 f5 hn5 hz hmR
  refine Ph.alone (i := 15) (o := ?_) (p := 0) ?_ ?_ hOrd ?_ ?_
  rotate_left 2
  · simp only [List.getElem?_toArray, List.getElem?_cons_succ, List.getElem?_cons_zero]; rfl
  rotate_right 1
  · kernel_rfl
  · kernel_rfl
  clear hOrd
  intro K hK
  go_simp
  skip
  refine hK.out _ _ (Ph.pick0 S6.out) (fun hHeld hOrd => ?_)
  clear hK K
  try simp only [Act.put, List.setIfInBounds_toArray, List.set_cons_zero, List.set_cons_succ] at hOrd ⊢
  try rw [st]
  have kr6 := K6.out.rd
  have kw6 := K6.out.wr
  refine Ph.take (i := 16) (oi := ?_) (v := ?_) (p := 0) ?_ ?_ ?_ ?_ hOrd ?_ ?_ ?_ ?_ ?_ ?_
  rotate_left 2
  · simp only [List.getElem?_toArray, List.getElem?_cons_succ, List.getElem?_cons_zero]; rfl
  · kernel_rfl
  · kernel_rfl
  · kernel_rfl
  · kernel_rfl
  · kernel_rfl
  · exact fun _ _ _ h => h
  · refine Or.inl ⟨by rfl, ?_⟩
    intro w' hSw
    (try simp only [Ph.pick, List.getD_cons_succ, List.getD_cons_zero] at hSw)
    go_simp
    all_goals (with_reducible rfl)
  · assumption
  clear hOrd
  intro hOrd
  try simp only [Act.put, List.setIfInBounds_toArray, List.set_cons_zero, List.set_cons_succ] at hOrd ⊢
  refine Ph.take (i := 17) (oi := ?_) (v := ?_) (p := 0) ?_ ?_ ?_ ?_ hOrd ?_ ?_ ?_ ?_ ?_ ?_
  rotate_left 2
  · simp only [List.getElem?_toArray, List.getElem?_cons_succ, List.getElem?_cons_zero]; rfl
  · kernel_rfl
  · kernel_rfl
  · kernel_rfl
  · kernel_rfl
  · kernel_rfl
  · exact fun _ _ _ h => h
  · refine Or.inl ⟨by rfl, ?_⟩
    intro w' hSw
    (try simp only [Ph.pick, List.getD_cons_succ, List.getD_cons_zero] at hSw)
    go_simp
    all_goals (with_reducible rfl)
  · assumption
  clear hOrd
  intro hOrd
  try simp only [Act.put, List.setIfInBounds_toArray, List.set_cons_zero, List.set_cons_succ] at hOrd ⊢
  refine Ph.alone (i := 18) (o := ?_) (p := 1) ?_ ?_ hOrd ?_ ?_
  rotate_left 2
  · simp only [List.getElem?_toArray, List.getElem?_cons_succ, List.getElem?_cons_zero]; rfl
  rotate_right 1
  · kernel_rfl
  · kernel_rfl
  clear hOrd
  intro K hK
  go_simp
  skip
  refine hK.out _ _ (Ph.pick1 trivial) (fun hHeld hOrd => ?_)
  clear hK K
  try simp only [Act.put, List.setIfInBounds_toArray, List.set_cons_zero, List.set_cons_succ] at hOrd ⊢
  refine Ph.done (by kernel_rfl) ?_ _
  clear hHeld hOrd st q0 q1 q2 gw rn
  obtain ⟨w7, e7, r7, f7, s7⟩ := G.box_set K6.out 2 (.slice (some ⟨Q.g, 0, none⟩) (m + 1) Q.N.n) (smC Q (m + 1) tot) rfl
  have e7' := e7
  try rw [e7]
  have R7 := Lib.hid r7
  have F7 := Lib.hid f7
  have k7 := r7.rd
  have e8 : IntKind.i64.wrap (((m + 1 : Nat) : Int) - 1) = (m : Int) := by rw [IntKind.wrap_i64]; omega
  clear e7 e7' r7 f7 s7 kr6 kw6
  go_wp2
  go_ret
  have hh := H3.out
  have f47 : Fr Q.F w3 w7 := (((F4.out.mono (fun k hk => Or.inl hk)).trans (F5.out.mono (fun k hk => hk.elim))).trans (F46.out.mono (fun k hk => Or.inr (Or.inr hk)))).trans (F7.out.mono (fun k hk => Or.inr (Or.inl hk)))
  have hset : (M ++ R).set m ⟨s, x.n, x.n, i⟩ = (M ++ [⟨s, x.n, x.n, i⟩]) ++ R.drop 1 := by
    rw [HM.out.1, List.set_append_right _ _ (Nat.le_refl _), Nat.sub_self]
    cases R with
    | nil => have := HRR.out.2; rw [HM.out.1, List.append_nil] at this; omega
    | cons r R => simp
  refine ⟨rfl, ⟨i, σ1.on fl i s, ⟨by rw [List.length_append, ← HM.out.1]; exact R7.out, ⟨R.drop 1, by rw [← hset]; exact G6.out.fr F7.out (fun e => hh.ne.1 e.symm), by rw [← hset, List.length_set]; exact HRR.out.1⟩, ((I4.out.fr F5.out (fun _ _ => id)).fr F46.out (fun k hk e => (hh.ne.2 k hk).1 e)).fr F7.out (fun k hk e => (hh.ne.2 k hk).2 e), hh.n1, hh.ne, HF.out⟩⟩, (((Fr.of_below B2.out).trans F2.out).trans (Fr.of_below B3.out)).trans f47⟩
end
end Go.Proofs.YtbgcpljekcagiaaGreat
/- The contracts of layer 8 (summary): what Offer comes to, in keys and counts alone. -/
namespace Go.Proofs.YtbgcpljekcagiaaGreat
set_option linter.unusedSimpArgs false
set_option linter.unusedVariables false
set_option maxRecDepth 100000
open Go.ChangeShapes Go.WideShapes Go.ChangeAt Go.RowKit
/-- a key, its count, what may be others'. -/
abbrev Tri := ByteArray × Int × Int
def Ent.c (x : Ent) : Tri := (x.k, x.n, x.e)
def cutM (n : Nat) (M : List Tri) : List Tri := if M.length = n then M.dropLast else M
def leastM (n : Nat) (M : List Tri) : Int := if M.length < n then 0 else match M.getLast? with
  | some x => x.2.1
  | none => 0
def preM (n : Nat) (M : List Tri) (s : ByteArray) : List Tri × Nat := match M.findIdx? (fun x => decide (x.1 = s)) with
  | some j => (M, j)
  | none => (cutM n M ++ [(s, leastM n M, leastM n M)], (cutM n M).length)
def incM (M : List Tri) (j : Nat) (d : Int) : List Tri := match M[j]? with
  | some x => M.set j (x.1, x.2.1 + d, x.2.2)
  | none => M
def riseM : List Tri → Nat → List Tri
  | M, 0 => M
  | M, i + 1 => match M[i]?, M[i + 1]? with
    | some y, some x => if y.2.1 < x.2.1 then riseM ((M.set i x).set (i + 1) y) i else M
    | _, _ => M
def begM (M : List Tri) (tot d : Int) : List Tri × Int := if 4611686018427387904 - d ≤ tot then ([], 0) else (M, tot)
def offerM (n : Nat) (M : List Tri) (tot : Int) (s : ByteArray) (d : Int) : List Tri × Int :=
  if d < 1 ∨ 4611686018427387904 ≤ d ∨ 64 < s.size then (M, tot)
  else (riseM (incM (preM n (begM M tot d).1 s).1 (preM n (begM M tot d).1 s).2 d) (preM n (begM M tot d).1 s).2, (begM M tot d).2 + d)
theorem rise_map : ∀ (i : Nat) (L : List Ent), (riseE L i).map Ent.c = riseM (L.map Ent.c) i
  | 0, L => by unfold riseE riseM; rfl
  | i + 1, L => by
    unfold riseE riseM
    rw [List.getElem?_map, List.getElem?_map]
    cases hy : L[i]? with
    | none => rfl
    | some y =>
      cases hx : L[i + 1]? with
      | none => rfl
      | some x =>
        show (if y.n < x.n then riseE ((L.set i x).set (i + 1) y) i else L).map Ent.c = if y.n < x.n then riseM (((L.map Ent.c).set i x.c).set (i + 1) y.c) i else L.map Ent.c
        split
        · rw [rise_map i, List.map_set, List.map_set]
        · rfl
section
variable {w W : World} {Q : SmN} {L M : List Ent} {tot : Int} {σ : KSt}
theorem SmOK.more {n : Nat} {d : Int} (h : SmOK n L tot σ) (hd : 0 ≤ d) (hs : tot + d < 4611686018427387904) : SmOK n L (tot + d) σ :=
  ⟨h.key, h.has, h.nd, h.cnt, fun x hx => by have := h.bd x hx; omega, by have := h.tb; omega⟩
theorem set_same {α : Type} {l : List α} {j : Nat} {x : α} (hj : l[j]? = some x) : l.set j x = l := by
  obtain ⟨h, e⟩ := List.getElem?_eq_some_iff.1 hj
  rw [← e]; exact List.set_getElem_self h
theorem SmOK.inc {n j : Nat} {x : Ent} {d : Int} (h : SmOK n L tot σ) (hj : L[j]? = some x) (hd : 0 ≤ d) (hs : x.n + d ≤ tot) : SmOK n (L.set j ⟨x.k, x.n + d, x.e, x.p⟩) tot σ := by
  have hmem : ∀ y ∈ L.set j ⟨x.k, x.n + d, x.e, x.p⟩, y ∈ L ∨ y = ⟨x.k, x.n + d, x.e, x.p⟩ := fun y hy => List.mem_or_eq_of_mem_set hy
  have hx : x ∈ L := List.mem_of_getElem? hj
  have hp : (L.set j ⟨x.k, x.n + d, x.e, x.p⟩).map Ent.p = L.map Ent.p := by
    rw [List.map_set]
    exact set_same (by rw [List.getElem?_map, hj]; rfl)
  refine ⟨fun y hy => ?_, fun i s hi => ?_, by rw [hp]; exact h.nd, by rw [List.length_set]; exact h.cnt, fun y hy => ?_, h.tb⟩
  · rcases hmem y hy with h1 | h1
    · exact h.key y h1
    · rw [h1]; exact h.key x hx
  · obtain ⟨y, hy, e⟩ := h.has i s hi
    have : i ∈ L.map Ent.p := List.mem_map.2 ⟨y, hy, e⟩
    rw [← hp] at this
    obtain ⟨z, hz, e2⟩ := List.mem_map.1 this
    exact ⟨z, hz, e2⟩
  · rcases hmem y hy with h1 | h1
    · exact h.bd y h1
    · rw [h1]
      have := h.bd x hx
      exact ⟨by show 0 ≤ x.n + d; omega, hs, this.2.2.1, this.2.2.2⟩
theorem inc_map {j : Nat} {x : Ent} {d : Int} (hj : L[j]? = some x) : (L.set j ⟨x.k, x.n + d, x.e, x.p⟩).map Ent.c = incM (L.map Ent.c) j d := by
  unfold incM
  rw [List.getElem?_map, hj, List.map_set]
  rfl
theorem pre_yes {n j : Nat} {x : Ent} {s : ByteArray} (hj : L[j]? = some x) (hk : x.k = s) (hu : ∀ i y, L[i]? = some y → y.k = s → i = j) : preM n (L.map Ent.c) s = (L.map Ent.c, j) := by
  have hf : (L.map Ent.c).findIdx? (fun x => decide (x.1 = s)) = some j := by
    obtain ⟨hl, e⟩ := List.getElem?_eq_some_iff.1 hj
    rw [List.findIdx?_eq_some_iff_getElem]
    refine ⟨by simpa using hl, by simp [e, Ent.c, hk], fun i hi => ?_⟩
    simp only [List.getElem_map, Ent.c, decide_eq_true_eq]
    intro e2
    have := hu i L[i] (List.getElem?_eq_getElem (by omega)) e2
    omega
  unfold preM
  rw [hf]
theorem pre_no {n : Nat} {s : ByteArray} (hk : ∀ x ∈ L, x.k ≠ s) : preM n (L.map Ent.c) s = (cutM n (L.map Ent.c) ++ [(s, leastM n (L.map Ent.c), leastM n (L.map Ent.c))], (cutM n (L.map Ent.c)).length) := by
  have hf : (L.map Ent.c).findIdx? (fun x => decide (x.1 = s)) = none := by
    rw [List.findIdx?_eq_none_iff]
    intro x hx
    obtain ⟨y, hy, e⟩ := List.mem_map.1 hx
    rw [← e, decide_eq_false_iff_not]
    exact hk y hy
  unfold preM
  rw [hf]
theorem pre_short {n : Nat} {s : ByteArray} {i : Nat} (hk : ∀ x ∈ L, x.k ≠ s) (hl : L.length < n) : preM n (L.map Ent.c) s = ((L ++ [(⟨s, 0, 0, i⟩ : Ent)]).map Ent.c, L.length) := by
  rw [pre_no hk]
  unfold cutM leastM
  rw [List.length_map, if_neg (by omega), if_pos hl, List.map_append, List.length_map]
  rfl
theorem pre_full {n : Nat} {s : ByteArray} {i : Nat} {x : Ent} (hk : ∀ y ∈ M ++ [x], y.k ≠ s) (hl : M.length + 1 = n) : preM n ((M ++ [x]).map Ent.c) s = ((M ++ [(⟨s, x.n, x.n, i⟩ : Ent)]).map Ent.c, M.length) := by
  rw [pre_no hk]
  unfold cutM leastM
  rw [List.length_map, List.length_append, List.length_singleton, if_pos hl, if_neg (by omega), List.map_append, List.map_append]
  have e1 : (List.map Ent.c M ++ List.map Ent.c [x]).dropLast = List.map Ent.c M := by simp
  have e2 : (List.map Ent.c M ++ List.map Ent.c [x]).getLast? = some x.c := by simp
  rw [e1, e2, List.length_map]
  rfl
end
end Go.Proofs.YtbgcpljekcagiaaGreat
/- The contracts of layer 8 (summary): Offer. -/
namespace Go.Proofs.YtbgcpljekcagiaaGreat
set_option linter.unusedSimpArgs false
set_option linter.unusedVariables false
set_option maxRecDepth 100000
open Go.ChangeShapes Go.WideShapes Go.ChangeAt Go.RowKit
section
variable {w W : World} {Q : SmN} {L M : List Ent} {tot : Int} {σ : KSt}
theorem SmAt.keyuni (h : SmAt w Q L tot σ) {i j : Nat} {x y : Ent} (hj : L[j]? = some x) (hi : L[i]? = some y) (hk : y.k = x.k) : i = j := by
  have h1 := h.ok.key x (List.mem_of_getElem? hj)
  have h2 := h.ok.key y (List.mem_of_getElem? hi)
  rw [hk] at h2
  have hp := h.ix.uni.1 _ _ _ h2 h1
  rcases Nat.decEq i j with hne | he
  · exact absurd hp (h.ok.other hi hj hne)
  · exact he
set_option maxRecDepth 100000 in
set_option maxHeartbeats 4000000 in
theorem smoffer_in (s : ByteArray) (hs : s.size ≤ 64) (d : Int) (hd : 1 ≤ d ∧ d < 4611686018427387904) (w : World) (h : SmAt w Q L tot σ) :
    Calls Tryz.prog 56 #[.pointer (some ⟨Q.s, 0, none⟩), .string s, .int .i64 d] w fun e w' => e = .returned (.tuple #[]) ∧ (∃ L' σ', SmAt w' Q L' (offerM Q.N.n (L.map Ent.c) tot s d).2 σ' ∧ L'.map Ent.c = (offerM Q.N.n (L.map Ent.c) tot s d).1) ∧ Fr Q.F w w' := by
  have hoff : offerM Q.N.n (L.map Ent.c) tot s d = (riseM (incM (preM Q.N.n (begM (L.map Ent.c) tot d).1 s).1 (preM Q.N.n (begM (L.map Ent.c) tot d).1 s).2 d) (preM Q.N.n (begM (L.map Ent.c) tot d).1 s).2, (begM (L.map Ent.c) tot d).2 + d) := by
    unfold offerM; rw [if_neg (by omega)]
  rw [hoff]
  clear hoff
  have t1 : decide (d < (1 : Int)) = false := by rw [decide_eq_false_iff_not]; omega
  have t2 : decide ((4611686018427387904 : Int) ≤ d) = false := by rw [decide_eq_false_iff_not]; omega
  have t3 : decide ((64 : Int) < (s.size : Int)) = false := by rw [decide_eq_false_iff_not]; omega
  obtain ⟨e, he⟩ : ∃ e, e = 4611686018427387904 - d := ⟨_, rfl⟩
  have e1 : IntKind.i64.wrap (4611686018427387904 - d) = e := by rw [IntKind.wrap_i64]; omega
  have H := Lib.hid h
  have HD := Lib.hid (And.intro hd (And.intro he hs))
  have k := h.hs.rd
  clear h hd he hs
  go_enter Tryz.func56, Tryz.ntmps56
  go_upto_if 28 with (fail)
  go_cut [] from 28 to 30 (fun wx => ∃ (L0 : List Ent) (σ0 : KSt) (t0 : Int), Hid (SmAt wx Q L0 t0 σ0) ∧ Hid (Fr Q.F w wx) ∧ Hid ((L0.map Ent.c, t0) = begM (L.map Ent.c) tot d) ∧ Hid (t0 + d < 4611686018427387904))
  case first =>
    by_cases hb : e ≤ tot
    · have b1 : decide (e ≤ tot) = true := by rw [decide_eq_true_iff]; exact hb
      have CC := Lib.hid (smclear_any w H.out)
      have HB := Lib.hid (show (([] : List Ent).map Ent.c, (0 : Int)) = begM (L.map Ent.c) tot d from by unfold begM; rw [if_pos (by have := HD.out; omega)]; rfl)
      go_wp2_with (go_at_call 94; ((with_reducible refine CC.out.mono ?_); rintro e' w1 ⟨rfl, ⟨ρ, h1⟩, f1⟩; have H1 := Lib.hid h1; have F1 := Lib.hid f1; clear h1 f1))
      go_meet
      case rel => exact ⟨[], ρ, 0, H1, F1, HB, Lib.hid (by have := HD.out; omega)⟩
    · have b1 : decide (e ≤ tot) = false := by rw [decide_eq_false_iff_not]; exact hb
      have HB := Lib.hid (show (L.map Ent.c, tot) = begM (L.map Ent.c) tot d from by unfold begM; rw [if_neg (by have := HD.out; omega)])
      have HT := Lib.hid (show tot + d < 4611686018427387904 by have := HD.out; omega)
      go_wp2
      go_meet
      case rel => exact ⟨L, σ, tot, H, Lib.hid (Fr.refl _ _), HB, HT⟩
  case rest =>
  obtain ⟨L0, σ0, t0, H0, F0, HB, HT⟩ := hcut
  clear k t1 t2 t3 e1
  have hb := H0.out.ok.tb
  have hd := HD.out.1
  have hn := H0.out.n1
  obtain ⟨m, hm⟩ : ∃ m, m = L0.length := ⟨_, rfl⟩
  have h0 := H0.out.hs
  rw [← hm] at h0
  have k := h0.rd
  have kw := h0.wr
  obtain ⟨t1, ht1⟩ : ∃ t1, t1 = t0 + d := ⟨_, rfl⟩
  have e1 : IntKind.i64.wrap (t0 + d) = t1 := by rw [IntKind.wrap_i64, ht1]; have := HT.out; omega
  obtain ⟨w2, e2, r2, f2, s2⟩ := G.box_set h0 3 (.int .i64 t1) (smC Q m t1) rfl
  have hok := H0.out.ok.more (d := d) (by omega) HT.out
  rw [← ht1] at hok
  have H2 := Lib.hid (show SmAt w2 Q L0 t1 σ0 from by
    obtain ⟨R, hg, hl⟩ := H0.out.hg
    exact ⟨by rw [← hm]; exact r2, ⟨R, hg.fr f2 (fun e => H0.out.ne.1 e.symm), hl⟩, H0.out.ix.fr f2 (fun k hk e => (H0.out.ne.2 k hk).2 e), H0.out.n1, H0.out.ne, hok⟩)
  have F2 := Lib.hid (F0.out.trans (f2.mono (fun k hk => Or.inr (Or.inl hk))))
  have HT1 := Lib.hid (And.intro ht1 HT.out)
  clear r2 f2 s2 hok hb hn hd ht1
  go_upto_region 4 with (fail)
  clear e1 e2 k kw h0 hm
  go_cut [6] from 39 to 41 (fun s6 wx => ∃ z : Int, s6 = .int .i64 z ∧ Hid (SmAt wx Q L0 t1 σ0) ∧ Hid (Fr Q.F w wx) ∧ Hid ((∃ (j : Nat) (x : Ent), z = (j : Int) ∧ L0[j]? = some x ∧ x.k = s) ∨ (z = -1 ∧ ∀ x ∈ L0, x.k ≠ s)))
  case first =>
    by_cases hf : ∃ (j : Nat) (x : Ent), L0[j]? = some x ∧ x.k = s
    · obtain ⟨j, x, hj, rfl⟩ := hf
      have CF := Lib.hid (smfind_yes j x (by have := HD.out.2.2; unfold maxLen; omega) w2 H2.out hj)
      have HJ := Lib.hid hj
      clear hj
      go_wp2_with (go_at_call 95; ((with_reducible refine CF.out.mono ?_); rintro e' w3 ⟨rfl, b3⟩; have H3 := Lib.hid (H2.out.keep b3); have F3 := Lib.hid (F2.out.trans (Fr.of_below b3)); clear b3))
      go_meet
      case rel => exact ⟨(j : Int), rfl, H3, F3, Lib.hid (Or.inl ⟨j, x, rfl, HJ.out, rfl⟩)⟩
    · have hk : ∀ x ∈ L0, x.k ≠ s := fun x hx e => by
        obtain ⟨i, hi, e2⟩ := List.mem_iff_getElem.1 hx
        exact hf ⟨i, x, by rw [List.getElem?_eq_getElem hi, e2], e⟩
      have CF := Lib.hid (smfind_no s (by have := HD.out.2.2; unfold maxLen; omega) w2 H2.out hk)
      have HK := Lib.hid hk
      clear hf hk
      go_wp2_with (go_at_call 95; ((with_reducible refine CF.out.mono ?_); rintro e' w3 ⟨rfl, b3⟩; have H3 := Lib.hid (H2.out.keep b3); have F3 := Lib.hid (F2.out.trans (Fr.of_below b3)); clear b3))
      go_meet
      case rel => exact ⟨-1, rfl, H3, F3, Lib.hid (Or.inr ⟨rfl, HK.out⟩)⟩
  case rest =>
  obtain ⟨z, rfl, H3, F3, HZ⟩ := hcut
  clear H2 F2
  go_upto_if 43 with (fail)
  go_cut [6] from 43 to 46 (fun s6 wx => ∃ (j : Nat) (L1 : List Ent) (σ1 : KSt) (x : Ent), s6 = .int .i64 (j : Int) ∧ Hid (SmAt wx Q L1 t1 σ1) ∧ Hid (L1[j]? = some x) ∧ Hid (Fr Q.F w wx) ∧ Hid ((L1.map Ent.c, j) = preM Q.N.n (L0.map Ent.c) s) ∧ Hid (x.n ≤ t0))
  case first =>
    rcases HZ.out with ⟨j, x, rfl, hj, rfl⟩ | ⟨rfl, hk⟩
    · have HP := Lib.hid (pre_yes (n := Q.N.n) hj rfl (fun i y hi hk => H3.out.keyuni hj hi hk)).symm
      have HX := Lib.hid (H0.out.ok.bd x (List.mem_of_getElem? hj)).2.1
      have HJ := Lib.hid hj
      have b1 : decide ((j : Int) < 0) = false := by rw [decide_eq_false_iff_not]; omega
      clear hj
      go_wp2
      go_meet
      case rel => exact ⟨j, L0, σ0, x, rfl, H3, HJ, F3, Lib.hid HP.out, HX⟩
    · have hle := H0.out.le
      rcases Nat.lt_or_ge L0.length Q.N.n with hl | hl
      · have CE := Lib.hid (smenter_no s HD.out.2.2 _ H3.out hk hl)
        have HP := Lib.hid (fun i => (pre_short (n := Q.N.n) (i := i) hk hl).symm)
        have HTB := Lib.hid H0.out.ok.tb
        clear hk hle hl
        go_wp2_with (go_at_call 96; ((with_reducible refine CE.out.mono ?_); rintro e' w4 ⟨rfl, ⟨i, ρ, h4⟩, f4⟩; have H4 := Lib.hid h4; have F4 := Lib.hid (F3.out.trans f4); clear h4 f4))
        go_meet
        case rel => exact ⟨L0.length, _, ρ, ⟨s, 0, 0, i⟩, rfl, H4, Lib.hid (by simp), F4, Lib.hid (HP.out i), Lib.hid HTB.out.1⟩
      · obtain ⟨M, x, hMx⟩ : ∃ M x, L0 = M ++ [x] := by
          rcases List.eq_nil_or_concat L0 with e | ⟨M, x, e⟩
          · have := H0.out.n1; rw [e] at hl; simp at hl; omega
          · exact ⟨M, x, by rw [e, List.concat_eq_append]⟩
        have h3 := H3.out
        have h0 := H0.out
        rw [hMx] at h3 h0 hk hle hl
        have hlm : M.length + 1 = Q.N.n := by rw [List.length_append] at hl hle; simp only [List.length_singleton] at hl hle; omega
        have CE := Lib.hid (smenter_full s x HD.out.2.2 _ h3 hk hlm)
        have HP := Lib.hid (fun i => (pre_full (n := Q.N.n) (i := i) hk hlm).symm)
        have HX := Lib.hid (h0.ok.bd x (by simp)).2.1
        have HMX := Lib.hid hMx
        clear hk hle hl hlm h3 h0 hMx
        go_wp2_with (go_at_call 96; ((with_reducible refine CE.out.mono ?_); rintro e' w4 ⟨rfl, ⟨i, ρ, h4⟩, f4⟩; have H4 := Lib.hid h4; have F4 := Lib.hid (F3.out.trans f4); clear h4 f4))
        go_meet
        case rel => exact ⟨M.length, _, ρ, ⟨s, x.n, x.n, i⟩, rfl, H4, Lib.hid (by simp), F4, Lib.hid (by rw [HMX.out]; exact HP.out i), HX⟩
  case rest =>
  obtain ⟨j, L1, σ1, x, rfl, H5, HJ, F5, HP, HX⟩ := hcut
  clear H3 F3 HZ
  obtain ⟨R, hg, hl⟩ := H5.out.hg
  have hj := HJ.out
  have hjl := (List.getElem?_eq_some_iff.1 hj).1
  have hle := H5.out.le
  have hn := H5.out.n1
  have hjR : (L1 ++ R)[j]? = some x := by rw [List.getElem?_append_left hjl]; exact hj
  obtain ⟨v, hv⟩ : ∃ v, v = x.n + d := ⟨_, rfl⟩
  have hbx := H5.out.ok.bd x (List.mem_of_getElem? hj)
  have hvb : 0 ≤ v ∧ v ≤ t1 := by have h1 := HX.out; have h2 := HT1.out; have h3 := HD.out; omega
  have e1 : IntKind.i64.wrap (x.n + d) = v := by rw [IntKind.wrap_i64, hv]; have h1 := HX.out; have h2 := HT1.out; have h3 := HD.out; omega
  obtain ⟨m, hm⟩ : ∃ m, m = L1.length := ⟨_, rfl⟩
  have k := H5.out.hs.rd
  rw [← hm] at k
  have c0 := (H5.out.cell hj).1
  have gw := hg.wr
  have t2 : (0 : Int) ≤ (j : Int) := by omega
  have t3 : (j : Int) < (m : Int) := by omega
  have st := rws_store_one encE_len hg (i := j) (j := 0) (a := x) (a' := ⟨x.k, v, x.e, x.p⟩) (v := .int .i64 v) hjR rfl (by omega)
  simp only [Nat.add_zero] at st
  have hset : (L1 ++ R).set j ⟨x.k, v, x.e, x.p⟩ = L1.set j ⟨x.k, v, x.e, x.p⟩ ++ R := by rw [List.set_append_left _ _ hjl]
  rw [hset] at st
  have g6 := setObj_at (lt_of_block hg) (.cells (rws encE (L1.set j ⟨x.k, v, x.e, x.p⟩ ++ R)).toArray 154 (0, 0))
  have f6 := Fr.setObj (F := fun k => k = Q.g) (Fr.refl _ _) rfl (.cells (rws encE (L1.set j ⟨x.k, v, x.e, x.p⟩ ++ R)).toArray 154 (0, 0)) (w := wc)
  generalize setObj wc Q.g (.cells (rws encE (L1.set j ⟨x.k, v, x.e, x.p⟩ ++ R)).toArray 154 (0, 0)) = w6 at st g6 f6
  have f6 : Fr (fun k => k = Q.g) wc w6 := f6
  have hinc := H5.out.ok.inc (d := d) hj (by have := HD.out; omega) (by have h1 := HX.out; have h2 := HT1.out; omega)
  have hmap := inc_map (d := d) hj
  rw [← hv] at hinc hmap
  have hlen : (L1.set j ⟨x.k, v, x.e, x.p⟩).length = L1.length := List.length_set
  have H6 := Lib.hid (show SmAt w6 Q (L1.set j ⟨x.k, v, x.e, x.p⟩) t1 σ1 from ⟨by rw [hlen]; exact H5.out.hs.fr f6 H5.out.ne.1, ⟨R, g6, by rw [List.length_append, hlen, ← List.length_append]; exact hl⟩, H5.out.ix.fr f6 (fun k hk e => (H5.out.ne.2 k hk).1 e), H5.out.n1, H5.out.ne, hinc⟩)
  have F6 := Lib.hid (F5.out.trans (f6.mono (fun k hk => Or.inr (Or.inr hk))))
  have CR := Lib.hid (smrise_any j w6 H6.out (by rw [hlen]; exact hjl))
  have HR := Lib.hid (show (riseE (L1.set j ⟨x.k, v, x.e, x.p⟩) j).map Ent.c = riseM (incM (preM Q.N.n (L0.map Ent.c) s).1 (preM Q.N.n (L0.map Ent.c) s).2 d) (preM Q.N.n (L0.map Ent.c) s).2 from by rw [rise_map, hmap, ← HP.out])
  clear hg hl hj hjl hle hn hjR hv hbx hvb hm hset g6 f6 hinc hmap hlen
  go_wp2_with (go_at_call 97; ((with_reducible refine CR.out.mono ?_); rintro e' w7 ⟨rfl, h7, f7⟩; have H7 := Lib.hid h7; have F7 := Lib.hid (F6.out.trans f7); clear h7 f7))
  go_end0
  rw [← HB.out]
  refine ⟨rfl, ⟨_, σ1, ?_, HR.out⟩, F7.out⟩
  show SmAt w7 Q _ (t0 + d) σ1
  rw [← HT1.out.1]
  exact H7.out
/-- what isn't offered. -/
theorem smoffer_not (s : ByteArray) (hs : s.size ≤ maxLen) (d : Int) (hd : d < 1 ∨ 4611686018427387904 ≤ d ∨ 64 < s.size) (w : World) : Calls Tryz.prog 56 #[.pointer (some ⟨Q.s, 0, none⟩), .string s, .int .i64 d] w fun e w' => e = .returned (.tuple #[]) ∧ w = w' := by
  by_cases h1 : d < 1
  · have t1 : decide (d < (1 : Int)) = true := by rw [decide_eq_true_iff]; omega
    clear hd
    go_enter Tryz.func56, Tryz.ntmps56
    go_wp2
    refine bodyPost_ret (results_none rfl _ _ _) rfl ?_
    exact ⟨rfl, rfl⟩
  have t1 : decide (d < (1 : Int)) = false := by rw [decide_eq_false_iff_not]; omega
  by_cases h2 : 4611686018427387904 ≤ d
  · have t2 : decide ((4611686018427387904 : Int) ≤ d) = true := by rw [decide_eq_true_iff]; omega
    clear hd
    go_enter Tryz.func56, Tryz.ntmps56
    go_wp2
    refine bodyPost_ret (results_none rfl _ _ _) rfl ?_
    exact ⟨rfl, rfl⟩
  have t2 : decide ((4611686018427387904 : Int) ≤ d) = false := by rw [decide_eq_false_iff_not]; omega
  have h3 : 64 < s.size := by omega
  have t3 : decide ((64 : Int) < (s.size : Int)) = true := by rw [decide_eq_true_iff]; omega
  clear hd
  go_enter Tryz.func56, Tryz.ntmps56
  go_wp2
  refine bodyPost_ret (results_none rfl _ _ _) rfl ?_
  exact ⟨rfl, rfl⟩
/-- a summary, by its keys and counts. -/
def SmM (w : World) (Q : SmN) (M : List Tri) (tot : Int) : Prop := ∃ L σ, SmAt w Q L tot σ ∧ L.map Ent.c = M
theorem SmM.fr {M : List Tri} {F : Nat → Prop} (h : SmM W Q M tot) (hf : Fr F W w) (hF : ∀ k, Q.all k → ¬ F k) : SmM w Q M tot := by
  obtain ⟨L, σ, h1, h2⟩ := h
  exact ⟨L, σ, h1.fr hf hF, h2⟩
theorem SmM.keep {M : List Tri} (h : SmM W Q M tot) (hb : Below W.heap.size W w) : SmM w Q M tot := h.fr (F := fun _ => False) (Fr.of_below hb) (fun _ _ => id)
theorem smoffer_any {M : List Tri} (s : ByteArray) (hs : s.size ≤ maxLen) (d : Int) (w : World) (h : SmM w Q M tot) :
    Calls Tryz.prog 56 #[.pointer (some ⟨Q.s, 0, none⟩), .string s, .int .i64 d] w fun e w' => e = .returned (.tuple #[]) ∧ SmM w' Q (offerM Q.N.n M tot s d).1 (offerM Q.N.n M tot s d).2 ∧ Fr Q.F w w' := by
  by_cases hd : d < 1 ∨ 4611686018427387904 ≤ d ∨ 64 < s.size
  · have e : offerM Q.N.n M tot s d = (M, tot) := by unfold offerM; rw [if_pos hd]
    rw [e]
    exact (smoffer_not s hs d hd w).mono (fun e w' ⟨h1, h2⟩ => ⟨h1, by rw [← h2]; exact h, by rw [← h2]; exact Fr.refl _ _⟩)
  · obtain ⟨L, σ, h1, rfl⟩ := h
    exact (smoffer_in s (by omega) d (by omega) w h1).mono (fun e w' ⟨h2, ⟨L', σ', h3, h4⟩, h5⟩ => ⟨h2, ⟨L', σ', h3, h4⟩, h5⟩)
end
end Go.Proofs.YtbgcpljekcagiaaGreat
/- The contracts of layer 8 (summary): New, Bytes. -/
namespace Go.Proofs.YtbgcpljekcagiaaGreat
set_option linter.unusedSimpArgs false
set_option linter.unusedVariables false
set_option maxRecDepth 100000
open Go.ChangeShapes Go.WideShapes Go.ChangeAt Go.RowKit
theorem make_rws0 {α : Type} {enc : α → List Value} {m : Nat} (h : ∀ a, (enc a).length = m) (hm : 0 < m) (a : α) {P : Program} {t e : TypeId} {i : TypeInfo} {z : Value} {B : Nat} (hc : z.cells = (enc a).toArray) (ht : P.underlying t = some (.slice e)) (hi : P.info? e = some i) (hz : i.zero = some z) (hs : i.size = m) (hb : i.bytes = B) (n : Nat) (hn : B * n ≤ 281474976710656) (hn2 : n ≤ 281474976710656) (w : World) :
    (Instr.makeSlice t (.int .i64 0) (.int .i64 (n : Int))).run P w = .ok (.slice (some ⟨w.heap.size, 0, none⟩) 0 n) (w.alloc (.cells (rws enc (List.replicate n a)).toArray e)) := by
  have h2 := run_make w t e i z ht hi hz .i64 .i64 0 (n : Int) (by omega) (by omega) (by rw [hb]; omega) (by omega)
  rw [h2, hs, hc]
  simp only [Int.toNat_natCast, Int.toNat_zero]
  rw [rws_made h hm]
def ent0 : Ent := ⟨⟨#[]⟩, 0, 0, 0⟩
theorem ok_new (n : Nat) : SmOK n [] 0 (kNew n) := ⟨(fun x hx => by cases hx), (fun i s e => by cases e), List.nodup_nil, by simp [kNew], (fun x hx => by cases hx), by omega⟩
theorem info_ent : (Tryz.prog.info? 154).map (fun i => (i.zero, i.size, i.bytes)) = some (some (.agg #[.int .i64 0, .int .i64 0, .int .i64 0]), 3, 24) := by kernel_rfl
set_option maxHeartbeats 4000000 in
theorem smnew_any (X A B : Nat) (hX : X < 2305843009213693951) (hA : A < 2305843009213693951) (hB : B < 2305843009213693951) (n : Nat) (h1 : 1 ≤ n) (hn : n ≤ 64) (w : World) :
    Calls Tryz.prog 40 #[.int .i64 (n : Int), .agg #[.int .u64 X, .int .u64 A, .int .u64 B]] w fun e w' => ∃ Q : SmN, e = .returned (.pointer (some ⟨Q.s, 0, none⟩)) ∧ SmAt w' Q [] 0 (kNew n) ∧ Q.N.n = n ∧ (∀ k, Q.all k → w.heap.size ≤ k) ∧ Below w.heap.size w w' := by
  obtain ⟨i0, hi, hz0, hz1, hz2⟩ := info_parts info_ent
  have hmk := make_rws0 encE_len (by omega) ent0 (P := Tryz.prog) (t := 143) (e := 154) rfl Tryz.underlying143 hi hz0 hz1 hz2 n (by omega) (by omega)
  have CK := Lib.hid (fun w => new_yes n (by omega) w)
  have t1 : decide ((n : Int) < 1) = false := by rw [decide_eq_false_iff_not]; omega
  have t2 : decide ((64 : Int) < (n : Int)) = false := by rw [decide_eq_false_iff_not]; omega
  have t0 : (n : Int) ≤ 64 := by omega
  have HN := Lib.hid (And.intro h1 hn)
  clear hi hz0 hz1 hz2 h1 hn
  go_enter Tryz.func40, Tryz.ntmps40
  go_upto_region 1 with (fail)
  obtain ⟨w1, hw1, hbk, hbl, hsz⟩ := box_new w #[.int .u64 (X : Int), .int .u64 (A : Int), .int .u64 (B : Int)] 86
  rw [hw1]
  obtain ⟨rb, hrb⟩ : ∃ rb, rb = w.heap.size := ⟨_, rfl⟩
  rw [← hrb] at hbk ⊢
  have BK := Lib.hid hbk
  have HB := Lib.hid hbl
  have HS := Lib.hid (And.intro hsz hrb)
  clear hbk hbl hsz hw1 hrb
  go_upto_region 4 with (go_at_call 74; ((with_reducible refine (CK.out _).mono ?_); rintro e w2 ⟨sb, sgb, sgs, sgf, rfl, hk, bk, hb⟩; have KK := Lib.hid hk; have HBB := Lib.hid hb; have K2 := Lib.hid (BK.out.keep bk); have HB2 := Lib.hid (below_in HB.out bk); have HZ := Lib.hid bk.size; clear hk bk hb))
  have k : ∀ j, w2.drew.cell? ⟨rb, j, none⟩ = (#[.int .u64 (X : Int), .int .u64 (A : Int), .int .u64 (B : Int)] : Array Value)[j]? := K2.out.drew.rd
  have y2 : Below w2.heap.size w2 w2.drew := below_draws (Below.refl _ _) 1
  have RL := Lib.hid (lt_of_block K2.out)
  have CI := Lib.hid (fun wx (hx : Below w2.heap.size w2 wx) => show Calls Tryz.prog 75 #[.pointer (some ⟨sb, 0, none⟩), .agg #[.int .u64 X, .int .u64 A, .int .u64 B]] wx (fun e w' => ∃ x g, e = .returned (.pointer (some ⟨x, 0, none⟩)) ∧ IdxAt w' ⟨x, sb, X, A, B, g, sgb, sgs, sgf, n⟩ (kNew n) ∧ (∀ j, w'.cell? ⟨rb, j, none⟩ = (#[.int .u64 (X : Int), .int .u64 (A : Int), .int .u64 (B : Int)] : Array Value)[j]?) ∧ Below w2.heap.size w2 w' ∧ Below wx.heap.size wx w' ∧ wx.heap.size ≤ x ∧ wx.heap.size ≤ g) from (ixnew_st X A B hX hA hB sb sgb sgs sgf n wx (KK.out.keep hx)).mono (fun e w' ⟨x, g, he, hi, hb, hx1, hg1⟩ => ⟨x, g, he, hi, ((K2.out.keep hx).keep hb).rd, below_in hx hb, hb, hx1, hg1⟩))
  go_region_held3 (fun w' => (∀ j, w'.cell? ⟨rb, j, none⟩ = (#[.int .u64 (X : Int), .int .u64 (A : Int), .int .u64 (B : Int)] : Array Value)[j]?) ∧ Below w2.heap.size w2 w') (first | (refine ⟨?_, ?_⟩ <;> assumption) | exact hold_al (by assumption) (by assumption) RL.out _ | exact hold_al (hold_al (by assumption) (by assumption) RL.out _).1 (hold_al (by assumption) (by assumption) RL.out _).2 RL.out _)
    ((go_at_call 75; ((with_reducible refine (CI.out _ (by first | assumption | exact And.right (by assumption))).mono ?_); rintro e w3 ⟨x, g, rfl, hi, z1, z2, z3, z4, z5⟩; have I3 := Lib.hid hi; have B3 := Lib.hid z3; have X3 := Lib.hid (And.intro z4 z5); clear hi z3 z4 z5)))
  all_goals
    go_wp2
    go_ret
  all_goals
    have hn := HN.out
    have hkl := KK.out.lt
    have hbb := HBB.out
    have hx := X3.out
    have hil := I3.out.lt
    have l1 := hil x (Or.inr rfl)
    have l2 := hil g (Or.inl (Or.inl rfl))
    have l3 := z2.size
    have l4 := HZ.out
    have l5 := HS.out
    have l6 := HB.out.size
    have l7 : w2.drew.heap.size = w2.heap.size := rfl
  · obtain ⟨w4, hw4, k4, b4, s4⟩ := box_new w3 (rws encE (List.replicate n ent0)).toArray 154
    rw [hw4]
    obtain ⟨w5, hw5, k5, b5, s5⟩ := box_new w4 #[.pointer (some ⟨sb, 0, none⟩), .pointer (some ⟨x, 0, none⟩), .slice (some ⟨w3.heap.size, 0, none⟩) 0 n, .int .i64 0] 145
    rw [hw5]
    rw [s4] at k5
    have bb := below_in (below_in (below_in HB2.out z2) b4) b5
    refine ⟨⟨w3.heap.size + 1, w3.heap.size, ⟨x, sb, X, A, B, g, sgb, sgs, sgf, n⟩⟩, rfl, ⟨k5, ⟨List.replicate n ent0, k4.keep b5, by simp⟩, (I3.out.keep b4).keep b5, hn, ⟨by simp only; omega, ?_⟩, ok_new n⟩, rfl, ?_, bb⟩
    · rintro k ((hk | hk | hk | hk | hk) | hk) <;> simp only at hk ⊢ <;> omega
    · rintro k (((hk | hk | hk | hk | hk) | hk | hk) | hk) <;> simp only at hk ⊢ <;> omega
  · obtain ⟨w5, hw5, k5, b5, s5⟩ := box_new w3 #[.pointer (some ⟨sb, 0, none⟩), .pointer (some ⟨x, 0, none⟩), .slice (some ⟨w2.heap.size, 0, none⟩) 0 n, .int .i64 0] 145
    rw [hw5]
    have k4 : Blk w3 w2.heap.size 154 (rws encE (List.replicate n ent0)).toArray := by
      obtain ⟨w4, hw4, k4, b4, s4⟩ := box_new w2 (rws encE (List.replicate n ent0)).toArray 154
      have b3 := B3.out
      rw [hw4] at b3
      exact k4.drew.keep b3
    have l8 : (w2.alloc (Obj.cells (rws encE (List.replicate n ent0)).toArray 154)).drew.heap.size = w2.heap.size + 1 := by
      show (w2.heap.push _).size = _
      simp
    rw [l8] at hx
    have bb := below_in (below_in HB2.out z2) b5
    refine ⟨⟨w3.heap.size, w2.heap.size, ⟨x, sb, X, A, B, g, sgb, sgs, sgf, n⟩⟩, rfl, ⟨k5, ⟨List.replicate n ent0, k4.keep b5, by simp⟩, I3.out.keep b5, hn, ⟨by simp only; omega, ?_⟩, ok_new n⟩, rfl, ?_, bb⟩
    · rintro k ((hk | hk | hk | hk | hk) | hk) <;> simp only at hk ⊢ <;> omega
    · rintro k (((hk | hk | hk | hk | hk) | hk | hk) | hk) <;> simp only at hk ⊢ <;> omega
end Go.Proofs.YtbgcpljekcagiaaGreat
/- The laws of layer 8 (summary): what they share. -/
namespace Go.Proofs.YtbgcpljekcagiaaGreat
set_option linter.unusedSimpArgs false
set_option linter.unusedVariables false
set_option maxRecDepth 100000
open Go.ChangeShapes Go.WideShapes Go.ChangeAt Go.RowKit
section
variable {w W : World} {Q : SmN} {M : List Tri} {tot : Int}
theorem smtotalM (w : World) (h : SmM w Q M tot) : Calls Tryz.prog 63 #[.pointer (some ⟨Q.s, 0, none⟩)] w fun e w' => e = .returned (.int .i64 tot) ∧ w = w' := by
  obtain ⟨L, σ, h1, rfl⟩ := h
  exact smtotal_any w h1
theorem smcountM_yes (j : Nat) (t : Tri) (hs : t.1.size ≤ maxLen) (w : World) (h : SmM w Q M tot) (hj : M[j]? = some t) : Calls Tryz.prog 127 #[.pointer (some ⟨Q.s, 0, none⟩), .string t.1] w fun e w' => e = .returned (.tuple #[.int .i64 t.2.1, .int .i64 t.2.2, .bool true]) ∧ Below w.heap.size w w' := by
  obtain ⟨L, σ, h1, rfl⟩ := h
  rw [List.getElem?_map] at hj
  cases hx : L[j]? with
  | none => rw [hx] at hj; cases hj
  | some x =>
    rw [hx] at hj
    have : x.c = t := Option.some.inj hj
    subst this
    exact smcount_yes j x hs w h1 hx
theorem smcountM_no (s : ByteArray) (hs : s.size ≤ maxLen) (w : World) (h : SmM w Q M tot) (hk : ∀ t ∈ M, t.1 ≠ s) : Calls Tryz.prog 127 #[.pointer (some ⟨Q.s, 0, none⟩), .string s] w fun e w' => e = .returned (.tuple #[.int .i64 0, .int .i64 0, .bool false]) ∧ Below w.heap.size w w' := by
  obtain ⟨L, σ, h1, rfl⟩ := h
  exact smcount_no s hs w h1 (fun x hx => hk x.c (List.mem_map.2 ⟨x, hx, rfl⟩))
/-- a summary whose blocks are new ones. -/
structure SmB (W w : World) (Q : SmN) (M : List Tri) (tot : Int) : Prop where
  at_ : SmM w Q M tot
  bl : Below W.heap.size W w
  new : ∀ k, Q.all k → W.heap.size ≤ k
theorem SmB.keep {w' : World} (h : SmB W w Q M tot) (hb : Below w.heap.size w w') : SmB W w' Q M tot := ⟨h.at_.keep hb, G.below_on h.bl hb, h.new⟩
theorem SmB.step {w' : World} {M' : List Tri} {tot' : Int} (h : SmB W w Q M tot) (h' : SmM w' Q M' tot') (hf : Fr Q.F w w') : SmB W w' Q M' tot' :=
  ⟨h', h.bl.trans (hf.below h.bl.size (fun k hk => h.new k (Or.inl hk))), h.new⟩
end
end Go.Proofs.YtbgcpljekcagiaaGreat
/- The law SummaryEpochs of layer 8: the plain side. -/
namespace Go.Proofs.YtbgcpljekcagiaaGreat
set_option linter.unusedSimpArgs false
set_option linter.unusedVariables false
set_option maxRecDepth 100000
open Go.ChangeShapes Go.WideShapes Go.ChangeAt Go.RowKit
/-- what Count tells. -/
def tellM (M : List Tri) (s : ByteArray) : Int × Int × Bool := match M.find? (fun t => decide (t.1 = s)) with
  | some t => (t.2.1, t.2.2, true)
  | none => (0, 0, false)
section
variable {w W : World} {Q : SmN} {M : List Tri} {tot : Int}
theorem smcountM_any (s : ByteArray) (hs : s.size ≤ maxLen) (w : World) (h : SmM w Q M tot) : Calls Tryz.prog 127 #[.pointer (some ⟨Q.s, 0, none⟩), .string s] w fun e w' => e = .returned (.tuple #[.int .i64 (tellM M s).1, .int .i64 (tellM M s).2.1, .bool (tellM M s).2.2]) ∧ Below w.heap.size w w' := by
  unfold tellM
  cases hf : M.find? (fun t => decide (t.1 = s)) with
  | none =>
    rw [List.find?_eq_none] at hf
    exact smcountM_no s hs w h (fun t ht e => hf t ht (decide_eq_true e))
  | some t =>
    have h1 := List.find?_some hf
    have h2 := List.mem_of_find?_eq_some hf
    have h3 : t.1 = s := of_decide_eq_true h1
    obtain ⟨j, hj⟩ := List.getElem?_of_mem h2
    subst h3
    exact smcountM_yes j t hs w h hj
end
end Go.Proofs.YtbgcpljekcagiaaGreat
/- The contracts of layer 6 (slot): New, of a slice of functions with room behind (XSlN's, with a capacity; made of it by hand). -/
namespace Go.Proofs.YtbgcpljekcagiaaGreat
set_option linter.unusedSimpArgs false
set_option linter.unusedVariables false
set_option maxRecDepth 100000
open Go.ChangeShapes Go.WideShapes Go.ChangeAt Go.RowKit
open Ar (inR)
/-- functions in a row, and more behind. -/
structure RowsGe (w : World) (b : Nat) (k : Nat) (X A B : Nat → Nat) : Prop where
  blk : ∃ C : Array Value, w.heap[b]? = some (.cells C 86 (0, 0)) ∧ 3 * k ≤ C.size ∧ ∀ j, j < k → C[3 * j]? = some (.int .u64 (X j)) ∧ C[3 * j + 1]? = some (.int .u64 (A j)) ∧ C[3 * j + 2]? = some (.int .u64 (B j))
theorem RowsAt.ge {w : World} {b k m : Nat} {X A B : Nat → Nat} (h : RowsAt w b m X A B) (hk : k ≤ m) : RowsGe w b k X A B := by
  obtain ⟨C, h1, h2, h3⟩ := h.blk
  exact ⟨C, h1, by omega, fun j hj => h3 j (by omega)⟩
theorem RowsGe.fr {w w' : World} {b k : Nat} {X A B : Nat → Nat} {F : Nat → Prop} (h : RowsGe w b k X A B) (hf : Fr F w w') (hF : ¬ F b) : RowsGe w' b k X A B := by
  obtain ⟨C, h1, h2, h3⟩ := h.blk
  exact ⟨C, (hf.block b (lt_of_block h1) hF).trans h1, h2, h3⟩
theorem RowsGe.keep {w w' : World} {b k : Nat} {X A B : Nat → Nat} (h : RowsGe w b k X A B) (hb : Below w.heap.size w w') : RowsGe w' b k X A B := h.fr (F := fun _ => False) (Fr.of_below hb) id
theorem RowsGe.bl {w : World} {b k : Nat} {X A B : Nat → Nat} (h : RowsGe w b k X A B) : b < w.heap.size := by obtain ⟨C, h1, _⟩ := h.blk; exact lt_of_block h1
/-- an append of nothing onto nil. -/
theorem run_app_nil' (a : Addr) (c : Nat) (w : World) : (Builtin.append_ #[78, 78] 78 #[.slice none 0 0, .slice (some a) 0 c]).run Tryz.prog w = .ok (.slice none 0 0) w := by
  have hq := row_size
  cases hi : Tryz.prog.info? 86 with
  | none => rw [hi] at hq; cases hq
  | some i =>
    rw [hi] at hq
    have h3 : i.size = 3 := by simpa using hq
    have hl : ∀ (x : Addr), (loadCells x 0).run Tryz.prog w = .ok #[] w := fun x => by simpa using run_loadCells_list (P := Tryz.prog) w x [] (by simp)
    simp [Builtin.append_, run_underlying Tryz.underlying78, Builtin.lenOf, Builtin.firstCells, sizeOf, typeInfo, hi, h3, hl, storeCells]
set_option maxRecDepth 100000 in
set_option maxHeartbeats 2000000 in
theorem snew_cap (k W : Nat) (hk : 1 ≤ k ∧ k ≤ 8) (hW : 1 ≤ W ∧ 8 * (k * W) ≤ 2147483647) (b0 : Nat) (X A B : Nat → Nat) (w : World) (hr : RowsGe w b0 k X A B) (hl : ∀ j, j < k → X j < 2305843009213693951 ∧ A j < 2305843009213693951 ∧ B j < 2305843009213693951) :
    Calls Tryz.prog 78 #[.slice (some ⟨b0, 0, none⟩) k (k + 1), .int .i64 (W : Int)] w fun e w' => ∃ N : SlN, e = .returned (.pointer (some ⟨N.b, 0, none⟩)) ∧ SlAt w' N (fun _ _ => 0) ∧ N.k = k ∧ N.W = W ∧ N.X = X ∧ N.A = A ∧ N.B = B ∧ w.heap.size ≤ N.b ∧ w.heap.size ≤ N.g ∧ Below w.heap.size w w' := by
  have hWm : W ≤ k * W := Nat.le_mul_of_pos_left _ (by omega)
  have CB := Lib.hid (sbytes_any k W hW.2 (by omega) (by omega) w)
  obtain ⟨m, hm⟩ : ∃ m, m = k * W := ⟨_, rfl⟩
  rw [← hm] at CB hW hWm
  have em : (k : Int) * (W : Int) = (m : Int) := by rw [hm, Int.natCast_mul]
  have hmk := fun w => G.make_one (P := Tryz.prog) (t := 164) (e := 2) (z := .int .i64 0) (B := 8) Tryz.underlying164 (i := (Tryz.prog.info? 2).get (by kernel_rfl)) (by rfl) (by kernel_rfl) rfl (by kernel_rfl) (by kernel_rfl) m (by omega) (by omega) w
  have t1 : ((k : Int) == 0) = false := by simp; omega
  have t2 : decide ((W : Int) < 1) = false := by rw [decide_eq_false_iff_not]; omega
  have t3 : decide ((2147483647 : Int) < 8 * (m : Int)) = false := by rw [decide_eq_false_iff_not]; omega
  have t4 : (k : Int) ≤ 8 := by omega
  have t5 : (m : Int) ≤ 2147483647 := by omega
  have HR := Lib.hid hr
  have HL := Lib.hid hl
  have HK := Lib.hid (And.intro hk (And.intro hW hm))
  clear hr hl hm hWm
  go_enter Tryz.func78, Tryz.ntmps78
  go_upto_region 3 with (go_at_call 77; ((with_reducible refine CB.out.mono ?_); rintro e w1 ⟨rfl, b1⟩; have B1 := Lib.hid b1; clear b1))
  go_upto_region 4 with (fail)
  clear hmk em t1 t2 t3
  obtain ⟨w2, hw2, k2, l2, s2⟩ := box_new w1 (Array.replicate m (.int .i64 0)) 2
  obtain ⟨R0, hR0⟩ : ∃ R0 : List Value, R0 = List.replicate 24 (Value.int .u64 0) := ⟨_, rfl⟩
  obtain ⟨C3, hC3⟩ : ∃ C3 : Array Value, C3 = (R0 ++ [Value.slice none 0 0, Value.int .i64 (k : Int), Value.int .i64 (W : Int), Value.slice (some ⟨w1.heap.size, 0, none⟩) m m]).toArray := ⟨_, rfl⟩
  obtain ⟨w3, hw3, k3, l3, s3⟩ := box_new w2 C3 181
  rw [hw2]
  rw [show w2.alloc (.cells #[Value.int .u64 0, Value.int .u64 0, Value.int .u64 0, Value.int .u64 0, Value.int .u64 0, Value.int .u64 0, Value.int .u64 0, Value.int .u64 0, Value.int .u64 0, Value.int .u64 0, Value.int .u64 0, Value.int .u64 0, Value.int .u64 0, Value.int .u64 0, Value.int .u64 0, Value.int .u64 0, Value.int .u64 0, Value.int .u64 0, Value.int .u64 0, Value.int .u64 0, Value.int .u64 0, Value.int .u64 0, Value.int .u64 0, Value.int .u64 0, Value.slice none 0 0, Value.int .i64 (k : Int), Value.int .i64 (W : Int), Value.slice (some ⟨w1.heap.size, 0, none⟩) m m] 181) = w3 from by rw [← hw3, hC3, hR0]; rfl]
  obtain ⟨bb, hbb⟩ : ∃ bb, bb = w1.heap.size + 1 := ⟨_, rfl⟩
  obtain ⟨g, hg⟩ : ∃ g, g = w1.heap.size := ⟨_, rfl⟩
  rw [s2, ← hbb] at k3
  rw [← hg] at k2 hC3
  rw [← hbb, ← hg]
  have hB3 := (B1.out.trans (l2.mono B1.out.size)).trans (l3.mono (by have := B1.out.size; omega))
  obtain ⟨C, hC, hCs0, hCj0⟩ := HR.out.blk
  obtain ⟨CL, hCL⟩ : ∃ CL : List Value, CL = C.toList.take (3 * k) := ⟨_, rfl⟩
  have hCs : CL.length = 3 * k := by rw [hCL, List.length_take, Array.length_toList]; omega
  have hCg : ∀ n, n < 3 * k → CL[n]? = C[n]? := fun n hn => by rw [hCL, List.getElem?_take_of_lt hn, Array.getElem?_toList]
  have hCj : ∀ j, j < k → CL[3 * j]? = some (.int .u64 (X j)) ∧ CL[3 * j + 1]? = some (.int .u64 (A j)) ∧ CL[3 * j + 2]? = some (.int .u64 (B j)) := fun j hj => by rw [hCg _ (by omega), hCg _ (by omega), hCg _ (by omega)]; exact hCj0 j hj
  have hC' : Blk w3 b0 86 C := (show Blk w b0 86 C from hC).keep hB3
  have hR0l : R0.length = 24 := by rw [hR0, List.length_replicate]
  have hk := HK.out.1
  have hone : ∀ v ∈ CL, v.oneCell' = true := by
    intro v hv
    obtain ⟨n, hn, he⟩ := List.getElem_of_mem hv
    have hn3 : n < 3 * k := by rw [← hCs]; exact hn
    have hj := hCj (n / 3) (by omega)
    have hh : CL[n]? = some v := by rw [List.getElem?_eq_getElem hn, he]
    have h3 : n = 3 * (n / 3) ∨ n = 3 * (n / 3) + 1 ∨ n = 3 * (n / 3) + 2 := by omega
    rcases h3 with e | e | e
    · rw [e, hj.1] at hh; injection hh with hh; rw [← hh]; rfl
    · rw [e, hj.2.1] at hh; injection hh with hh; rw [← hh]; rfl
    · rw [e, hj.2.2] at hh; injection hh with hh; rw [← hh]; rfl
  have hcp := run_copy_many (P := Tryz.prog) w3 78 78 3 86 3 bb 0 8 8 ⟨b0, 0, none⟩ k (k + 1) C3 181 CL Tryz.underlying78 row_size k3
    (by rw [hCs, show Nat.min k 8 = k from Nat.min_eq_left hk.2]; omega)
    (fun j v hv => by rw [show (⟨b0, 0, none⟩ : Addr).add j = ⟨b0, j, none⟩ by (simp [Addr.add]; omega), blk_cell hC', ← hCg j (by rw [← hCs]; exact (List.getElem?_eq_some_iff.1 hv).1)]; exact hv)
    (by rw [hCs, hC3]; simp [hR0l]; omega) hone
  rw [show Nat.min k 8 = k from Nat.min_eq_left hk.2, setRow_obj k3] at hcp
  obtain ⟨C4, hC4⟩ : ∃ C4 : Array Value, C4 = (C3.toList.take 0 ++ CL ++ C3.toList.drop (0 + CL.length)).toArray := ⟨_, rfl⟩
  rw [← hC4] at hcp
  replace hcp : (Builtin.copy_ #[78, 78] 3 #[.slice (some ⟨bb, 0, none⟩) 8 8, .slice (some ⟨b0, 0, none⟩) k (k + 1)]).run Tryz.prog w3 = .ok (.int .i64 (k : Int)) (setObj w3 bb (.cells C4 181 (0, 0))) := hcp
  have k4 : Blk (setObj w3 bb (.cells C4 181 (0, 0))) bb 181 C4 := setObj_at (lt_of_block k3) _
  have f4 : Fr (fun i => i = bb) w3 (setObj w3 bb (.cells C4 181 (0, 0))) := Fr.setObj (F := fun i => i = bb) (Fr.refl _ _) rfl _
  generalize (setObj w3 bb (.cells C4 181 (0, 0))) = w4 at hcp k4 f4
  have hne : g ≠ bb := by omega
  have HBB := Lib.hid (And.intro hbb (And.intro hg hne))
  have k24 : w4.cell? ⟨bb, 24, none⟩ = some (.slice none 0 0) := by
    rw [blk_cell k4, hC4, hC3]
    have hl : CL.length = 3 * k := hCs
    simp only [List.take_zero, List.nil_append, List.getElem?_toArray]
    rw [List.getElem?_append_right (by omega), List.getElem?_drop, hl, show 0 + 3 * k + (24 - 3 * k) = 24 by omega, List.getElem?_append_right (by omega), hR0l]; rfl
  have hap := run_app_nil'
  have k24w := k4.wr
  have H4 := Lib.hid (And.intro k4 (And.intro f4 (And.intro hC4 (And.intro hC3 (And.intro hCs (And.intro hCj (And.intro hR0l hk)))))))
  have H3 := Lib.hid (And.intro k2 (And.intro l3 hB3))
  clear hbb hg hne k4 f4 hC4 hC3 hCs hCj hR0l hR0 hk hone hC hC' hCs0 hCj0 hCL hCg k3 k2 l3 l2 hB3 hw2 hw3 s2 s3
  go_upto_region 5 with (fail)
  clear hcp
  have t6 : (0 : Int) ≤ (k : Int) := by omega
  go_region
  rw [setCell_obj H4.out.1]
  obtain ⟨C5, hC5⟩ : ∃ C5 : Array Value, C5 = C4.setIfInBounds 24 (.slice none 0 0) := ⟨_, rfl⟩
  rw [← hC5]
  have k5 : Blk (setObj w4 bb (.cells C5 181 (0, 0))) bb 181 C5 := setObj_at (lt_of_block H4.out.1) _
  have f5 : Fr (fun i => i = bb) w3 (setObj w4 bb (.cells C5 181 (0, 0))) := H4.out.2.1.trans (Fr.setObj (F := fun i => i = bb) (Fr.refl _ _) rfl _)
  have H5 := Lib.hid (And.intro k5 (And.intro f5 hC5))
  clear k5 f5 hC5 k24 k24w hap
  generalize (setObj w4 bb (.cells C5 181 (0, 0))) = w5 at H5 ⊢
  go_wp2
  go_ret
  obtain ⟨k4, f4, hC4, hC3, hCs, hCj, hR0l, hk⟩ := H4.out
  obtain ⟨k5, f5, hC5⟩ := H5.out
  obtain ⟨hbb, hg, hne⟩ := HBB.out
  obtain ⟨k2, l3, hB3⟩ := H3.out
  have hl : CL.length = 3 * k := hCs
  have h4s : C4.size = 28 := by rw [hC4, hC3]; simp [hR0l, hl]; omega
  have hget : ∀ i, 24 ≤ i → C4[i]? = ([Value.slice none 0 0, Value.int .i64 (k : Int), Value.int .i64 (W : Int), Value.slice (some ⟨g, 0, none⟩) m m] : List Value)[i - 24]? := by
    intro i hi
    rw [hC4, hC3]
    simp only [List.take_zero, List.nil_append, List.getElem?_toArray]
    rw [List.getElem?_append_right (by omega), List.getElem?_drop, hl, show 0 + 3 * k + (i - 3 * k) = i by omega, List.getElem?_append_right (by omega), hR0l]
  have hrow : ∀ i, i < 3 * k → C4[i]? = CL[i]? := by
    intro i hi
    rw [hC4]
    simp only [List.take_zero, List.nil_append, List.getElem?_toArray]
    rw [List.getElem?_append_left (by omega)]
  have h5o : ∀ i, i ≠ 24 → C5[i]? = C4[i]? := fun i hi => by rw [hC5, Array.getElem?_setIfInBounds_ne (Ne.symm hi)]
  have hD : Below w5.heap.size w5 w5.drew := below_draws (Below.refl _ _) 1
  refine ⟨⟨bb, g, k, W, X, A, B⟩, rfl, ⟨⟨C5, k5.keep hD, ⟨by rw [hC5]; simpa using h4s, by rw [hC5, Array.getElem?_setIfInBounds_self_of_lt (by omega)], by rw [h5o 25 (by omega), hget 25 (by omega)]; rfl, by rw [h5o 26 (by omega), hget 26 (by omega)]; rfl, by rw [h5o 27 (by omega), hget 27 (by omega), HK.out.2.2]; rfl, fun j hj => ?_⟩⟩, ?_, Ne.symm hne, ⟨hk, HK.out.2.1.1, by show 8 * (k * W) ≤ _; rw [← HK.out.2.2]; exact HK.out.2.1.2⟩, HL.out, fun _ _ => by show (0:Int) ≤ 0 ∧ (0:Int) ≤ 9223372036854775807; omega⟩, rfl, rfl, rfl, rfl, rfl, by show _ ≤ bb; have := B1.out.size; omega, by show _ ≤ g; have := B1.out.size; omega, ?_⟩
  · have hj : j < k := hj
    have h3 := hCj j hj
    rw [Nat.mul_comm 3 j] at h3
    rw [h5o (j * 3) (by omega), h5o (j * 3 + 1) (by omega), h5o (j * 3 + 2) (by omega), hrow _ (by omega), hrow _ (by omega), hrow _ (by omega)]
    exact h3
  · have q : Blk w5 g 2 (Array.replicate m (.int .i64 0)) := (Blk.keep k2 l3).fr f5 hne
    have e : Array.replicate m (Value.int .i64 0) = numC .i64 (Sk.tab (fun _ _ => 0) k W) := by
      unfold numC; rw [Sk.tab_zero, ← HK.out.2.2, List.map_replicate]; rfl
    rw [e] at q
    exact q.keep hD
  · exact (hB3.trans (f5.below hB3.size (fun i hi => by have := B1.out.size; omega))).trans (hD.mono (by have := hB3.size; have := f5.size; omega))
end Go.Proofs.YtbgcpljekcagiaaGreat
