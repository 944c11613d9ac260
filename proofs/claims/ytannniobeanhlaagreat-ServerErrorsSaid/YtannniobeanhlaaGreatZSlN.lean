import Derived.Test.YtannniobeanhlaaGreatZIx
import Derived.Test.YtannniobeanhlaaGreatZGen
import Derived.Laws.CopyRow
import Derived.Test.YtannniobeanhlaaGreatZObj
import Derived.BigQuiet
import Derived.OwnWalk
import Derived.Test.YtannniobeanhlaaGreatZPhase
import Derived.Deep.CutRange
/- The contracts of layer 6 (slot): New. -/
namespace Go.Proofs.YtannniobeanhlaaGreat
set_option linter.unusedSimpArgs false
set_option linter.unusedVariables false
set_option maxRecDepth 100000
open Go.ChangeShapes Go.WideShapes Go.ChangeAt Go.RowKit
open Ar (inR)
/-- a copy of elements of several cells. -/
theorem run_copy_many {P : Program} (w : World) (dT sT ty elem : TypeId) (m g o dLen dCap : Nat) (a : Addr) (sLen sCap : Nat) (cur : Array Value) (t : TypeId) (cs : List Value)
    (hu : P.underlying dT = some (.slice elem)) (hs : (P.info? elem).map (·.size) = some m)
    (hg : w.heap[g]? = some (.cells cur t (0, 0))) (hn : cs.length = Nat.min sLen dLen * m)
    (hsrc : ∀ j v, cs[j]? = some v → w.cell? (a.add j) = some v) (hfit : o + cs.length ≤ cur.size) (h1 : ∀ v ∈ cs, v.oneCell' = true) :
    (Builtin.copy_ #[dT, sT] ty #[.slice (some ⟨g, o, none⟩) dLen dCap, .slice (some a) sLen sCap]).run P w =
      .ok (goInt (Nat.min sLen dLen)) (w.setRow g (cur.toList.take o ++ cs ++ cur.toList.drop (o + cs.length)).toArray) := by
  have hl := run_loadCells_list (P := P) w a cs hsrc
  have hst := run_storeCells_at P g o t cs 0 cur w hg (by simpa using hfit) h1
  cases hq : P.info? elem with
  | none => simp [hq] at hs
  | some i =>
    have hi : i.size = m := by simpa [hq] using hs
    rw [hn] at hl
    simp [Builtin.copy_, run_underlying hu, Builtin.lenOf, Builtin.firstCells, sizeOf, typeInfo, hq, hi, hl, hst]
theorem setRow_obj {w : World} {g : Nat} {cur c : Array Value} {t : TypeId} {f : Nat × Nat} (h : w.heap[g]? = some (.cells cur t f)) : w.setRow g c = setObj w g (.cells c t f) := by
  have := setRow_heap w g cur c t f h
  unfold World.setRow setObj at *
  congr 1
  apply Array.ext_getElem?
  intro k
  by_cases hk : g = k
  · subst hk
    rw [this]; simp [lt_of_block h]
  · simp [Array.getElem?_modify, hk]
theorem row_size : (Tryz.prog.info? 192).map (·.size) = some 3 := by kernel_rfl
theorem sbytes_any (k W : Nat) (h : 8 * (k * W) ≤ 2147483647) (hk : k ≤ 1000000) (hW : W ≤ 2147483647) (w : World) :
    Calls Tryz.prog 121 #[.int .i64 (k : Int), .int .i64 (W : Int)] w fun e w' => e = .returned (.int .i64 (8 * ((k * W : Nat) : Int))) ∧ Below w.heap.size w w' := by
  obtain ⟨m, hm⟩ : ∃ m, m = k * W := ⟨_, rfl⟩
  rw [← hm] at h ⊢
  have c1 := fun w => product_any (k : Int) (W : Int) (by unfold inR; omega) (by unfold inR; omega) w
  have c2 := fun w => product_any 8 (m : Int) (by unfold inR; omega) (by unfold inR; omega) w
  rw [show (k : Int) * (W : Int) = (m : Int) by rw [hm, Int.natCast_mul], show clamp (m : Int) = (m : Int) by unfold clamp; split; omega; split <;> omega] at c1
  rw [show clamp (8 * (m : Int)) = 8 * (m : Int) by unfold clamp; split; omega; split <;> omega] at c2
  have C1 := Lib.hid c1
  have C2 := Lib.hid c2
  clear c1 c2 hm
  go_enter Tryz.func121, Tryz.ntmps121
  go_wp2_with (go_at_call 120; first
    | ((with_reducible refine (C1.out _).mono ?_); rintro e w' ⟨rfl, rfl⟩)
    | ((with_reducible refine (C2.out _).mono ?_); rintro e w' ⟨rfl, rfl⟩))
  go_ret
  exact ⟨rfl, Below.refl _ _⟩
end Go.Proofs.YtannniobeanhlaaGreat
/- The contracts of layer 8 (summary): how one lies; what reads it. -/
namespace Go.Proofs.YtannniobeanhlaaGreat
set_option linter.unusedSimpArgs false
set_option linter.unusedVariables false
set_option maxRecDepth 100000
open Go.ChangeShapes Go.WideShapes Go.ChangeAt Go.RowKit
/-- an entry: its key, count, what may be others', its place. -/
structure Ent where
  k : ByteArray
  n : Int
  e : Int
  p : Nat
def encE (x : Ent) : List Value := [.int .i64 x.n, .int .i64 x.e, .int .i64 (x.p : Int)]
theorem encE_len (x : Ent) : (encE x).length = 3 := rfl
/-- where a summary lies. -/
structure SmN where
  s : Nat
  g : Nat
  N : IxN
abbrev SmN.n (Q : SmN) : Nat := Q.N.n
/-- what its calls change. -/
def SmN.F (Q : SmN) (k : Nat) : Prop := Q.N.F k ∨ k = Q.s ∨ k = Q.g
def SmN.all (Q : SmN) (k : Nat) : Prop := Q.F k ∨ k = Q.N.x
abbrev smC (Q : SmN) (m : Nat) (tot : Int) : Array Value := #[.pointer (some ⟨Q.N.b, 0, none⟩), .pointer (some ⟨Q.N.x, 0, none⟩), .slice (some ⟨Q.g, 0, none⟩) m Q.N.n, .int .i64 tot]
/-- the entries and the index belong to each other. -/
structure SmOK (n : Nat) (L : List Ent) (tot : Int) (σ : KSt) : Prop where
  key : ∀ x ∈ L, σ.K x.p = some x.k
  has : ∀ i s, σ.K i = some s → ∃ x ∈ L, x.p = i
  nd : (L.map Ent.p).Nodup
  cnt : L.length + σ.fl.length = n
  bd : ∀ x ∈ L, 0 ≤ x.n ∧ x.n ≤ tot ∧ 0 ≤ x.e ∧ x.e ≤ tot
  tb : 0 ≤ tot ∧ tot < 4611686018427387904
structure SmAt (w : World) (Q : SmN) (L : List Ent) (tot : Int) (σ : KSt) : Prop where
  hs : Blk w Q.s 176 (smC Q L.length tot)
  hg : ∃ R : List Ent, Blk w Q.g 218 (rws encE (L ++ R)).toArray ∧ (L ++ R).length = Q.N.n
  ix : IdxAt w Q.N σ
  n1 : 1 ≤ Q.N.n ∧ Q.N.n ≤ 64
  ne : Q.s ≠ Q.g ∧ (∀ k, Q.N.F k ∨ k = Q.N.x → k ≠ Q.g ∧ k ≠ Q.s)
  ok : SmOK Q.N.n L tot σ
section
variable {w W : World} {Q : SmN} {L : List Ent} {tot : Int} {σ : KSt}
theorem SmAt.fr {F : Nat → Prop} (h : SmAt W Q L tot σ) (hf : Fr F W w) (hF : ∀ k, Q.all k → ¬ F k) : SmAt w Q L tot σ := by
  obtain ⟨R, h1, h2⟩ := h.hg
  exact ⟨h.hs.fr hf (hF _ (Or.inl (Or.inr (Or.inl rfl)))), ⟨R, h1.fr hf (hF _ (Or.inl (Or.inr (Or.inr rfl)))), h2⟩, h.ix.fr hf (fun k hk => hF k (by rcases hk with hk | hk; exact Or.inl (Or.inl hk); exact Or.inr hk)), h.n1, h.ne, h.ok⟩
theorem SmAt.keep (h : SmAt W Q L tot σ) (hb : Below W.heap.size W w) : SmAt w Q L tot σ := h.fr (F := fun _ => False) (Fr.of_below hb) (fun _ _ => id)
theorem SmAt.lt (h : SmAt w Q L tot σ) : ∀ k, Q.all k → k < w.heap.size := by
  obtain ⟨R, h1, h2⟩ := h.hg
  rintro k ((hk | hk | hk) | hk)
  · exact h.ix.lt k (Or.inl hk)
  · rw [hk]; exact lt_of_block h.hs
  · rw [hk]; exact lt_of_block h1
  · exact h.ix.lt k (Or.inr hk)
theorem SmAt.le (h : SmAt w Q L tot σ) : L.length ≤ Q.N.n := by have := h.ok.cnt; omega
theorem SmAt.cell (h : SmAt w Q L tot σ) {i : Nat} {x : Ent} (hi : L[i]? = some x) : w.cell? ⟨Q.g, i * 3, none⟩ = some (.int .i64 x.n) ∧ w.cell? ⟨Q.g, i * 3 + 1, none⟩ = some (.int .i64 x.e) ∧ w.cell? ⟨Q.g, i * 3 + 2, none⟩ = some (.int .i64 (x.p : Int)) := by
  obtain ⟨R, h1, h2⟩ := h.hg
  have hi' : (L ++ R)[i]? = some x := by rw [List.getElem?_append_left (List.getElem?_eq_some_iff.1 hi).1]; exact hi
  exact ⟨rws_cell encE_len h1 hi' (j := 0) (by omega), rws_cell encE_len h1 hi' (j := 1) (by omega), rws_cell encE_len h1 hi' (j := 2) (by omega)⟩
/-! #### Len, Total, Least -/
end
end Go.Proofs.YtannniobeanhlaaGreat
/- The contracts of layer 8 (summary): find, Count. -/
namespace Go.Proofs.YtannniobeanhlaaGreat
set_option linter.unusedSimpArgs false
set_option linter.unusedVariables false
set_option maxRecDepth 100000
open Go.ChangeShapes Go.WideShapes Go.ChangeAt Go.RowKit
section
variable {w W : World} {Q : SmN} {L : List Ent} {tot : Int} {σ : KSt}
theorem SmOK.other {n : Nat} (h : SmOK n L tot σ) {i j : Nat} {x y : Ent} (hi : L[i]? = some y) (hj : L[j]? = some x) (hij : i ≠ j) : y.p ≠ x.p := fun e => by
  have hi' := List.getElem?_eq_some_iff.1 hi
  have hj' := List.getElem?_eq_some_iff.1 hj
  obtain ⟨li, ei⟩ := hi'
  obtain ⟨lj, ej⟩ := hj'
  have hp := List.pairwise_iff_getElem.1 h.nd
  have key : ∀ a b (la : a < L.length) (lb : b < L.length), a < b → L[a].p ≠ L[b].p := fun a b la lb hab => by
    have := hp a b (by simpa using la) (by simpa using lb) hab
    simpa using this
  rcases Nat.lt_or_gt_of_ne hij with h1 | h1
  · exact key i j li lj h1 (by rw [ei, ej]; exact e)
  · exact key j i lj li h1 (by rw [ei, ej]; exact e.symm)
end
end Go.Proofs.YtannniobeanhlaaGreat
/- The contracts of layer 8 (summary): drop, Clear. -/
namespace Go.Proofs.YtannniobeanhlaaGreat
set_option linter.unusedSimpArgs false
set_option linter.unusedVariables false
set_option maxRecDepth 100000
open Go.ChangeShapes Go.WideShapes Go.ChangeAt Go.RowKit
section
variable {w W : World} {Q : SmN} {L M : List Ent} {tot : Int} {σ : KSt}
/-- what drop leaves. -/
def KSt.off (σ : KSt) (p : Nat) : KSt := ⟨σ.fl ++ [p], fun j => if j = p then none else σ.K j⟩
theorem SmOK.drop {n : Nat} {x : Ent} (h : SmOK n (M ++ [x]) tot σ) : SmOK n M tot (σ.off x.p) := by
  have hlast : (M ++ [x])[M.length]? = some x := by simp
  have hne : ∀ y ∈ M, y.p ≠ x.p := fun y hy => by
    obtain ⟨i, hi, e⟩ := List.mem_iff_getElem.1 hy
    exact h.other (i := i) (j := M.length) (by rw [List.getElem?_append_left hi, List.getElem?_eq_getElem hi, e]) hlast (by omega)
  refine ⟨fun y hy => ?_, fun i s hi => ?_, ?_, ?_, fun y hy => h.bd y (List.mem_append_left _ hy), h.tb⟩
  · show (if y.p = x.p then none else σ.K y.p) = some y.k
    rw [if_neg (hne y hy)]
    exact h.key y (List.mem_append_left _ hy)
  · have hi : (if i = x.p then none else σ.K i) = some s := hi
    by_cases e : i = x.p
    · rw [if_pos e] at hi; cases hi
    · rw [if_neg e] at hi
      obtain ⟨y, hy, hp⟩ := h.has i s hi
      rcases List.mem_append.1 hy with h1 | h1
      · exact ⟨y, h1, hp⟩
      · rw [List.mem_singleton.1 h1] at hp; exact absurd hp.symm e
  · have := h.nd
    rw [List.map_append] at this
    exact (List.nodup_append.1 this).1
  · have := h.cnt
    rw [List.length_append] at this
    show M.length + (σ.fl ++ [x.p]).length = n
    rw [List.length_append]
    simp only [List.length_singleton] at this ⊢
    omega
end
end Go.Proofs.YtannniobeanhlaaGreat
/- The contracts of layer 8 (summary): Clear. -/
namespace Go.Proofs.YtannniobeanhlaaGreat
set_option linter.unusedSimpArgs false
set_option linter.unusedVariables false
set_option maxRecDepth 100000
open Go.ChangeShapes Go.WideShapes Go.ChangeAt Go.RowKit
section
variable {w W : World} {Q : SmN} {L M : List Ent} {tot : Int} {σ : KSt}
end
end Go.Proofs.YtannniobeanhlaaGreat
/- The contracts of layer 8 (summary): rise. -/
namespace Go.Proofs.YtannniobeanhlaaGreat
set_option linter.unusedSimpArgs false
set_option linter.unusedVariables false
set_option maxRecDepth 100000
open Go.ChangeShapes Go.WideShapes Go.ChangeAt Go.RowKit
section
variable {w W : World} {Q : SmN} {L M : List Ent} {tot : Int} {σ : KSt}
end
end Go.Proofs.YtannniobeanhlaaGreat
/- The contracts of layer 8 (summary): enter. -/
namespace Go.Proofs.YtannniobeanhlaaGreat
set_option linter.unusedSimpArgs false
set_option linter.unusedVariables false
set_option maxRecDepth 100000
open Go.ChangeShapes Go.WideShapes Go.ChangeAt Go.RowKit
section
variable {w W : World} {Q : SmN} {L M : List Ent} {tot : Int} {σ : KSt}
def KSt.on (σ : KSt) (fl : List Nat) (i : Nat) (s : ByteArray) : KSt := ⟨fl, fun j => if j = i then some s else σ.K j⟩
theorem SmOK.put {n i : Nat} {fl : List Nat} {s : ByteArray} {a b : Int} (h : SmOK n L tot σ) (hf : σ.fl = fl ++ [i]) (hk : σ.K i = none) (ha : 0 ≤ a ∧ a ≤ tot) (hb : 0 ≤ b ∧ b ≤ tot) : SmOK n (L ++ [⟨s, a, b, i⟩]) tot (σ.on fl i s) := by
  have hne : ∀ x ∈ L, x.p ≠ i := fun x hx e => by
    have := h.key x hx
    rw [e, hk] at this
    cases this
  refine ⟨fun x hx => ?_, fun j t hj => ?_, ?_, ?_, fun x hx => ?_, h.tb⟩
  · show (if x.p = i then some s else σ.K x.p) = some x.k
    rcases List.mem_append.1 hx with h1 | h1
    · rw [if_neg (hne x h1)]; exact h.key x h1
    · rw [List.mem_singleton.1 h1]; exact if_pos rfl
  · have hj : (if j = i then some s else σ.K j) = some t := hj
    by_cases e : j = i
    · exact ⟨⟨s, a, b, i⟩, by simp, e.symm⟩
    · rw [if_neg e] at hj
      obtain ⟨x, hx, hp⟩ := h.has j t hj
      exact ⟨x, List.mem_append_left _ hx, hp⟩
  · rw [List.map_append, List.nodup_append]
    refine ⟨h.nd, by simp, fun p hp q hq => ?_⟩
    obtain ⟨x, hx, e⟩ := List.mem_map.1 hp
    have hq : q = i := by simpa using hq
    rw [← e, hq]
    exact hne x hx
  · have := h.cnt
    rw [hf, List.length_append] at this
    rw [List.length_append]
    show L.length + 1 + fl.length = n
    simp only [List.length_singleton] at this
    omega
  · rcases List.mem_append.1 hx with h1 | h1
    · exact h.bd x h1
    · rw [List.mem_singleton.1 h1]; exact ⟨ha.1, ha.2, hb.1, hb.2⟩
end
end Go.Proofs.YtannniobeanhlaaGreat
/- The contracts of layer 8 (summary): enter, of a full one. -/
namespace Go.Proofs.YtannniobeanhlaaGreat
set_option linter.unusedSimpArgs false
set_option linter.unusedVariables false
set_option maxRecDepth 100000
open Go.ChangeShapes Go.WideShapes Go.ChangeAt Go.RowKit
section
variable {w W : World} {Q : SmN} {L M : List Ent} {tot : Int} {σ : KSt}
end
end Go.Proofs.YtannniobeanhlaaGreat
/- The contracts of layer 8 (summary): what Offer comes to, in keys and counts alone. -/
namespace Go.Proofs.YtannniobeanhlaaGreat
set_option linter.unusedSimpArgs false
set_option linter.unusedVariables false
set_option maxRecDepth 100000
open Go.ChangeShapes Go.WideShapes Go.ChangeAt Go.RowKit
/-- a key, its count, what may be others'. -/
abbrev Tri := ByteArray × Int × Int
def Ent.c (x : Ent) : Tri := (x.k, x.n, x.e)
def cutM (n : Nat) (M : List Tri) : List Tri := if M.length = n then M.dropLast else M
def leastM (n : Nat) (M : List Tri) : Int := if M.length < n then 0 else match M.getLast? with
  | some x => x.2.1
  | none => 0
def preM (n : Nat) (M : List Tri) (s : ByteArray) : List Tri × Nat := match M.findIdx? (fun x => decide (x.1 = s)) with
  | some j => (M, j)
  | none => (cutM n M ++ [(s, leastM n M, leastM n M)], (cutM n M).length)
def incM (M : List Tri) (j : Nat) (d : Int) : List Tri := match M[j]? with
  | some x => M.set j (x.1, x.2.1 + d, x.2.2)
  | none => M
def riseM : List Tri → Nat → List Tri
  | M, 0 => M
  | M, i + 1 => match M[i]?, M[i + 1]? with
    | some y, some x => if y.2.1 < x.2.1 then riseM ((M.set i x).set (i + 1) y) i else M
    | _, _ => M
def begM (M : List Tri) (tot d : Int) : List Tri × Int := if 4611686018427387904 - d ≤ tot then ([], 0) else (M, tot)
def offerM (n : Nat) (M : List Tri) (tot : Int) (s : ByteArray) (d : Int) : List Tri × Int :=
  if d < 1 ∨ 4611686018427387904 ≤ d ∨ 64 < s.size then (M, tot)
  else (riseM (incM (preM n (begM M tot d).1 s).1 (preM n (begM M tot d).1 s).2 d) (preM n (begM M tot d).1 s).2, (begM M tot d).2 + d)
section
variable {w W : World} {Q : SmN} {L M : List Ent} {tot : Int} {σ : KSt}
end
end Go.Proofs.YtannniobeanhlaaGreat
/- The contracts of layer 8 (summary): Offer. -/
namespace Go.Proofs.YtannniobeanhlaaGreat
set_option linter.unusedSimpArgs false
set_option linter.unusedVariables false
set_option maxRecDepth 100000
open Go.ChangeShapes Go.WideShapes Go.ChangeAt Go.RowKit
section
variable {w W : World} {Q : SmN} {L M : List Ent} {tot : Int} {σ : KSt}
/-- a summary, by its keys and counts. -/
def SmM (w : World) (Q : SmN) (M : List Tri) (tot : Int) : Prop := ∃ L σ, SmAt w Q L tot σ ∧ L.map Ent.c = M
theorem SmM.fr {M : List Tri} {F : Nat → Prop} (h : SmM W Q M tot) (hf : Fr F W w) (hF : ∀ k, Q.all k → ¬ F k) : SmM w Q M tot := by
  obtain ⟨L, σ, h1, h2⟩ := h
  exact ⟨L, σ, h1.fr hf hF, h2⟩
theorem SmM.keep {M : List Tri} (h : SmM W Q M tot) (hb : Below W.heap.size W w) : SmM w Q M tot := h.fr (F := fun _ => False) (Fr.of_below hb) (fun _ _ => id)
end
end Go.Proofs.YtannniobeanhlaaGreat
/- The contracts of layer 8 (summary): New, Bytes. -/
namespace Go.Proofs.YtannniobeanhlaaGreat
set_option linter.unusedSimpArgs false
set_option linter.unusedVariables false
set_option maxRecDepth 100000
open Go.ChangeShapes Go.WideShapes Go.ChangeAt Go.RowKit
theorem make_rws0 {α : Type} {enc : α → List Value} {m : Nat} (h : ∀ a, (enc a).length = m) (hm : 0 < m) (a : α) {P : Program} {t e : TypeId} {i : TypeInfo} {z : Value} {B : Nat} (hc : z.cells = (enc a).toArray) (ht : P.underlying t = some (.slice e)) (hi : P.info? e = some i) (hz : i.zero = some z) (hs : i.size = m) (hb : i.bytes = B) (n : Nat) (hn : B * n ≤ 281474976710656) (hn2 : n ≤ 281474976710656) (w : World) :
    (Instr.makeSlice t (.int .i64 0) (.int .i64 (n : Int))).run P w = .ok (.slice (some ⟨w.heap.size, 0, none⟩) 0 n) (w.alloc (.cells (rws enc (List.replicate n a)).toArray e)) := by
  have h2 := run_make w t e i z ht hi hz .i64 .i64 0 (n : Int) (by omega) (by omega) (by rw [hb]; omega) (by omega)
  rw [h2, hs, hc]
  simp only [Int.toNat_natCast, Int.toNat_zero]
  rw [rws_made h hm]
def ent0 : Ent := ⟨⟨#[]⟩, 0, 0, 0⟩
theorem ok_new (n : Nat) : SmOK n [] 0 (kNew n) := ⟨(fun x hx => by cases hx), (fun i s e => by cases e), List.nodup_nil, by simp [kNew], (fun x hx => by cases hx), by omega⟩
theorem info_ent : (Tryz.prog.info? 218).map (fun i => (i.zero, i.size, i.bytes)) = some (some (.agg #[.int .i64 0, .int .i64 0, .int .i64 0]), 3, 24) := by kernel_rfl
set_option maxHeartbeats 4000000 in
theorem smnew_any (X A B : Nat) (hX : X < 2305843009213693951) (hA : A < 2305843009213693951) (hB : B < 2305843009213693951) (n : Nat) (h1 : 1 ≤ n) (hn : n ≤ 64) (w : World) :
    Calls Tryz.prog 94 #[.int .i64 (n : Int), .agg #[.int .u64 X, .int .u64 A, .int .u64 B]] w fun e w' => ∃ Q : SmN, e = .returned (.pointer (some ⟨Q.s, 0, none⟩)) ∧ SmAt w' Q [] 0 (kNew n) ∧ Q.N.n = n ∧ (∀ k, Q.all k → w.heap.size ≤ k) ∧ Below w.heap.size w w' := by
  obtain ⟨i0, hi, hz0, hz1, hz2⟩ := info_parts info_ent
  have hmk := make_rws0 encE_len (by omega) ent0 (P := Tryz.prog) (t := 174) (e := 218) rfl Tryz.underlying174 hi hz0 hz1 hz2 n (by omega) (by omega)
  have CK := Lib.hid (fun w => new_yes n (by omega) w)
  have t1 : decide ((n : Int) < 1) = false := by rw [decide_eq_false_iff_not]; omega
  have t2 : decide ((64 : Int) < (n : Int)) = false := by rw [decide_eq_false_iff_not]; omega
  have t0 : (n : Int) ≤ 64 := by omega
  have HN := Lib.hid (And.intro h1 hn)
  clear hi hz0 hz1 hz2 h1 hn
  go_enter Tryz.func94, Tryz.ntmps94
  go_upto_region 1 with (fail)
  obtain ⟨w1, hw1, hbk, hbl, hsz⟩ := box_new w #[.int .u64 (X : Int), .int .u64 (A : Int), .int .u64 (B : Int)] 192
  rw [hw1]
  obtain ⟨rb, hrb⟩ : ∃ rb, rb = w.heap.size := ⟨_, rfl⟩
  rw [← hrb] at hbk ⊢
  have BK := Lib.hid hbk
  have HB := Lib.hid hbl
  have HS := Lib.hid (And.intro hsz hrb)
  clear hbk hbl hsz hw1 hrb
  go_upto_region 4 with (go_at_call 118; ((with_reducible refine (CK.out _).mono ?_); rintro e w2 ⟨sb, sgb, sgs, sgf, rfl, hk, bk, hb⟩; have KK := Lib.hid hk; have HBB := Lib.hid hb; have K2 := Lib.hid (BK.out.keep bk); have HB2 := Lib.hid (below_in HB.out bk); have HZ := Lib.hid bk.size; clear hk bk hb))
  have k : ∀ j, w2.drew.cell? ⟨rb, j, none⟩ = (#[.int .u64 (X : Int), .int .u64 (A : Int), .int .u64 (B : Int)] : Array Value)[j]? := K2.out.drew.rd
  have y2 : Below w2.heap.size w2 w2.drew := below_draws (Below.refl _ _) 1
  have RL := Lib.hid (lt_of_block K2.out)
  have CI := Lib.hid (fun wx (hx : Below w2.heap.size w2 wx) => show Calls Tryz.prog 119 #[.pointer (some ⟨sb, 0, none⟩), .agg #[.int .u64 X, .int .u64 A, .int .u64 B]] wx (fun e w' => ∃ x g, e = .returned (.pointer (some ⟨x, 0, none⟩)) ∧ IdxAt w' ⟨x, sb, X, A, B, g, sgb, sgs, sgf, n⟩ (kNew n) ∧ (∀ j, w'.cell? ⟨rb, j, none⟩ = (#[.int .u64 (X : Int), .int .u64 (A : Int), .int .u64 (B : Int)] : Array Value)[j]?) ∧ Below w2.heap.size w2 w' ∧ Below wx.heap.size wx w' ∧ wx.heap.size ≤ x ∧ wx.heap.size ≤ g) from (ixnew_st X A B hX hA hB sb sgb sgs sgf n wx (KK.out.keep hx)).mono (fun e w' ⟨x, g, he, hi, hb, hx1, hg1⟩ => ⟨x, g, he, hi, ((K2.out.keep hx).keep hb).rd, below_in hx hb, hb, hx1, hg1⟩))
  go_region_held3 (fun w' => (∀ j, w'.cell? ⟨rb, j, none⟩ = (#[.int .u64 (X : Int), .int .u64 (A : Int), .int .u64 (B : Int)] : Array Value)[j]?) ∧ Below w2.heap.size w2 w') (first | (refine ⟨?_, ?_⟩ <;> assumption) | exact hold_al (by assumption) (by assumption) RL.out _ | exact hold_al (hold_al (by assumption) (by assumption) RL.out _).1 (hold_al (by assumption) (by assumption) RL.out _).2 RL.out _)
    ((go_at_call 119; ((with_reducible refine (CI.out _ (by first | assumption | exact And.right (by assumption))).mono ?_); rintro e w3 ⟨x, g, rfl, hi, z1, z2, z3, z4, z5⟩; have I3 := Lib.hid hi; have B3 := Lib.hid z3; have X3 := Lib.hid (And.intro z4 z5); clear hi z3 z4 z5)))
  all_goals
    go_wp2
    go_ret
  all_goals
    have hn := HN.out
    have hkl := KK.out.lt
    have hbb := HBB.out
    have hx := X3.out
    have hil := I3.out.lt
    have l1 := hil x (Or.inr rfl)
    have l2 := hil g (Or.inl (Or.inl rfl))
    have l3 := z2.size
    have l4 := HZ.out
    have l5 := HS.out
    have l6 := HB.out.size
    have l7 : w2.drew.heap.size = w2.heap.size := rfl
  · obtain ⟨w4, hw4, k4, b4, s4⟩ := box_new w3 (rws encE (List.replicate n ent0)).toArray 218
    rw [hw4]
    obtain ⟨w5, hw5, k5, b5, s5⟩ := box_new w4 #[.pointer (some ⟨sb, 0, none⟩), .pointer (some ⟨x, 0, none⟩), .slice (some ⟨w3.heap.size, 0, none⟩) 0 n, .int .i64 0] 176
    rw [hw5]
    rw [s4] at k5
    have bb := below_in (below_in (below_in HB2.out z2) b4) b5
    refine ⟨⟨w3.heap.size + 1, w3.heap.size, ⟨x, sb, X, A, B, g, sgb, sgs, sgf, n⟩⟩, rfl, ⟨k5, ⟨List.replicate n ent0, k4.keep b5, by simp⟩, (I3.out.keep b4).keep b5, hn, ⟨by simp only; omega, ?_⟩, ok_new n⟩, rfl, ?_, bb⟩
    · rintro k ((hk | hk | hk | hk | hk) | hk) <;> simp only at hk ⊢ <;> omega
    · rintro k (((hk | hk | hk | hk | hk) | hk | hk) | hk) <;> simp only at hk ⊢ <;> omega
  · obtain ⟨w5, hw5, k5, b5, s5⟩ := box_new w3 #[.pointer (some ⟨sb, 0, none⟩), .pointer (some ⟨x, 0, none⟩), .slice (some ⟨w2.heap.size, 0, none⟩) 0 n, .int .i64 0] 176
    rw [hw5]
    have k4 : Blk w3 w2.heap.size 218 (rws encE (List.replicate n ent0)).toArray := by
      obtain ⟨w4, hw4, k4, b4, s4⟩ := box_new w2 (rws encE (List.replicate n ent0)).toArray 218
      have b3 := B3.out
      rw [hw4] at b3
      exact k4.drew.keep b3
    have l8 : (w2.alloc (Obj.cells (rws encE (List.replicate n ent0)).toArray 218)).drew.heap.size = w2.heap.size + 1 := by
      show (w2.heap.push _).size = _
      simp
    rw [l8] at hx
    have bb := below_in (below_in HB2.out z2) b5
    refine ⟨⟨w3.heap.size, w2.heap.size, ⟨x, sb, X, A, B, g, sgb, sgs, sgf, n⟩⟩, rfl, ⟨k5, ⟨List.replicate n ent0, k4.keep b5, by simp⟩, I3.out.keep b5, hn, ⟨by simp only; omega, ?_⟩, ok_new n⟩, rfl, ?_, bb⟩
    · rintro k ((hk | hk | hk | hk | hk) | hk) <;> simp only at hk ⊢ <;> omega
    · rintro k (((hk | hk | hk | hk | hk) | hk | hk) | hk) <;> simp only at hk ⊢ <;> omega
end Go.Proofs.YtannniobeanhlaaGreat
/- The laws of layer 8 (summary): what they share. -/
namespace Go.Proofs.YtannniobeanhlaaGreat
set_option linter.unusedSimpArgs false
set_option linter.unusedVariables false
set_option maxRecDepth 100000
open Go.ChangeShapes Go.WideShapes Go.ChangeAt Go.RowKit
section
variable {w W : World} {Q : SmN} {M : List Tri} {tot : Int}
/-- a summary whose blocks are new ones. -/
structure SmB (W w : World) (Q : SmN) (M : List Tri) (tot : Int) : Prop where
  at_ : SmM w Q M tot
  bl : Below W.heap.size W w
  new : ∀ k, Q.all k → W.heap.size ≤ k
theorem SmB.keep {w' : World} (h : SmB W w Q M tot) (hb : Below w.heap.size w w') : SmB W w' Q M tot := ⟨h.at_.keep hb, G.below_on h.bl hb, h.new⟩
theorem SmB.step {w' : World} {M' : List Tri} {tot' : Int} (h : SmB W w Q M tot) (h' : SmM w' Q M' tot') (hf : Fr Q.F w w') : SmB W w' Q M' tot' :=
  ⟨h', h.bl.trans (hf.below h.bl.size (fun k hk => h.new k (Or.inl hk))), h.new⟩
end
end Go.Proofs.YtannniobeanhlaaGreat
/- The law SummaryEpochs of layer 8: the plain side. -/
namespace Go.Proofs.YtannniobeanhlaaGreat
set_option linter.unusedSimpArgs false
set_option linter.unusedVariables false
set_option maxRecDepth 100000
open Go.ChangeShapes Go.WideShapes Go.ChangeAt Go.RowKit
section
variable {w W : World} {Q : SmN} {M : List Tri} {tot : Int}
end
end Go.Proofs.YtannniobeanhlaaGreat
/- The contracts of layer 6 (slot): New, of a slice of functions with room behind (XSlN's, with a capacity; made of it by hand). -/
namespace Go.Proofs.YtannniobeanhlaaGreat
set_option linter.unusedSimpArgs false
set_option linter.unusedVariables false
set_option maxRecDepth 100000
open Go.ChangeShapes Go.WideShapes Go.ChangeAt Go.RowKit
open Ar (inR)
/-- functions in a row, and more behind. -/
structure RowsGe (w : World) (b : Nat) (k : Nat) (X A B : Nat → Nat) : Prop where
  blk : ∃ C : Array Value, w.heap[b]? = some (.cells C 192 (0, 0)) ∧ 3 * k ≤ C.size ∧ ∀ j, j < k → C[3 * j]? = some (.int .u64 (X j)) ∧ C[3 * j + 1]? = some (.int .u64 (A j)) ∧ C[3 * j + 2]? = some (.int .u64 (B j))
theorem RowsAt.ge {w : World} {b k m : Nat} {X A B : Nat → Nat} (h : RowsAt w b m X A B) (hk : k ≤ m) : RowsGe w b k X A B := by
  obtain ⟨C, h1, h2, h3⟩ := h.blk
  exact ⟨C, h1, by omega, fun j hj => h3 j (by omega)⟩
theorem RowsGe.fr {w w' : World} {b k : Nat} {X A B : Nat → Nat} {F : Nat → Prop} (h : RowsGe w b k X A B) (hf : Fr F w w') (hF : ¬ F b) : RowsGe w' b k X A B := by
  obtain ⟨C, h1, h2, h3⟩ := h.blk
  exact ⟨C, (hf.block b (lt_of_block h1) hF).trans h1, h2, h3⟩
theorem RowsGe.keep {w w' : World} {b k : Nat} {X A B : Nat → Nat} (h : RowsGe w b k X A B) (hb : Below w.heap.size w w') : RowsGe w' b k X A B := h.fr (F := fun _ => False) (Fr.of_below hb) id
theorem RowsGe.bl {w : World} {b k : Nat} {X A B : Nat → Nat} (h : RowsGe w b k X A B) : b < w.heap.size := by obtain ⟨C, h1, _⟩ := h.blk; exact lt_of_block h1
/-- an append of nothing onto nil. -/
theorem run_app_nil' (a : Addr) (c : Nat) (w : World) : (Builtin.append_ #[139, 139] 139 #[.slice none 0 0, .slice (some a) 0 c]).run Tryz.prog w = .ok (.slice none 0 0) w := by
  have hq := row_size
  cases hi : Tryz.prog.info? 192 with
  | none => rw [hi] at hq; cases hq
  | some i =>
    rw [hi] at hq
    have h3 : i.size = 3 := by simpa using hq
    have hl : ∀ (x : Addr), (loadCells x 0).run Tryz.prog w = .ok #[] w := fun x => by simpa using run_loadCells_list (P := Tryz.prog) w x [] (by simp)
    simp [Builtin.append_, run_underlying Tryz.underlying139, Builtin.lenOf, Builtin.firstCells, sizeOf, typeInfo, hi, h3, hl, storeCells]
set_option maxRecDepth 100000 in
set_option maxHeartbeats 2000000 in
theorem snew_cap (k W : Nat) (hk : 1 ≤ k ∧ k ≤ 8) (hW : 1 ≤ W ∧ 8 * (k * W) ≤ 2147483647) (b0 : Nat) (X A B : Nat → Nat) (w : World) (hr : RowsGe w b0 k X A B) (hl : ∀ j, j < k → X j < 2305843009213693951 ∧ A j < 2305843009213693951 ∧ B j < 2305843009213693951) :
    Calls Tryz.prog 122 #[.slice (some ⟨b0, 0, none⟩) k (k + 1), .int .i64 (W : Int)] w fun e w' => ∃ N : SlN, e = .returned (.pointer (some ⟨N.b, 0, none⟩)) ∧ SlAt w' N (fun _ _ => 0) ∧ N.k = k ∧ N.W = W ∧ N.X = X ∧ N.A = A ∧ N.B = B ∧ w.heap.size ≤ N.b ∧ w.heap.size ≤ N.g ∧ Below w.heap.size w w' := by
  have hWm : W ≤ k * W := Nat.le_mul_of_pos_left _ (by omega)
  have CB := Lib.hid (sbytes_any k W hW.2 (by omega) (by omega) w)
  obtain ⟨m, hm⟩ : ∃ m, m = k * W := ⟨_, rfl⟩
  rw [← hm] at CB hW hWm
  have em : (k : Int) * (W : Int) = (m : Int) := by rw [hm, Int.natCast_mul]
  have hmk := fun w => G.make_one (P := Tryz.prog) (t := 94) (e := 2) (z := .int .i64 0) (B := 8) Tryz.underlying94 (i := (Tryz.prog.info? 2).get (by kernel_rfl)) (by rfl) (by kernel_rfl) rfl (by kernel_rfl) (by kernel_rfl) m (by omega) (by omega) w
  have t1 : ((k : Int) == 0) = false := by simp; omega
  have t2 : decide ((W : Int) < 1) = false := by rw [decide_eq_false_iff_not]; omega
  have t3 : decide ((2147483647 : Int) < 8 * (m : Int)) = false := by rw [decide_eq_false_iff_not]; omega
  have t4 : (k : Int) ≤ 8 := by omega
  have t5 : (m : Int) ≤ 2147483647 := by omega
  have HR := Lib.hid hr
  have HL := Lib.hid hl
  have HK := Lib.hid (And.intro hk (And.intro hW hm))
  clear hr hl hm hWm
  go_enter Tryz.func122, Tryz.ntmps122
  go_upto_region 3 with (go_at_call 121; ((with_reducible refine CB.out.mono ?_); rintro e w1 ⟨rfl, b1⟩; have B1 := Lib.hid b1; clear b1))
  go_upto_region 4 with (fail)
  clear hmk em t1 t2 t3
  obtain ⟨w2, hw2, k2, l2, s2⟩ := box_new w1 (Array.replicate m (.int .i64 0)) 2
  obtain ⟨R0, hR0⟩ : ∃ R0 : List Value, R0 = List.replicate 24 (Value.int .u64 0) := ⟨_, rfl⟩
  obtain ⟨C3, hC3⟩ : ∃ C3 : Array Value, C3 = (R0 ++ [Value.slice none 0 0, Value.int .i64 (k : Int), Value.int .i64 (W : Int), Value.slice (some ⟨w1.heap.size, 0, none⟩) m m]).toArray := ⟨_, rfl⟩
  obtain ⟨w3, hw3, k3, l3, s3⟩ := box_new w2 C3 266
  rw [hw2]
  rw [show w2.alloc (.cells #[Value.int .u64 0, Value.int .u64 0, Value.int .u64 0, Value.int .u64 0, Value.int .u64 0, Value.int .u64 0, Value.int .u64 0, Value.int .u64 0, Value.int .u64 0, Value.int .u64 0, Value.int .u64 0, Value.int .u64 0, Value.int .u64 0, Value.int .u64 0, Value.int .u64 0, Value.int .u64 0, Value.int .u64 0, Value.int .u64 0, Value.int .u64 0, Value.int .u64 0, Value.int .u64 0, Value.int .u64 0, Value.int .u64 0, Value.int .u64 0, Value.slice none 0 0, Value.int .i64 (k : Int), Value.int .i64 (W : Int), Value.slice (some ⟨w1.heap.size, 0, none⟩) m m] 266) = w3 from by rw [← hw3, hC3, hR0]; rfl]
  obtain ⟨bb, hbb⟩ : ∃ bb, bb = w1.heap.size + 1 := ⟨_, rfl⟩
  obtain ⟨g, hg⟩ : ∃ g, g = w1.heap.size := ⟨_, rfl⟩
  rw [s2, ← hbb] at k3
  rw [← hg] at k2 hC3
  rw [← hbb, ← hg]
  have hB3 := (B1.out.trans (l2.mono B1.out.size)).trans (l3.mono (by have := B1.out.size; omega))
  obtain ⟨C, hC, hCs0, hCj0⟩ := HR.out.blk
  obtain ⟨CL, hCL⟩ : ∃ CL : List Value, CL = C.toList.take (3 * k) := ⟨_, rfl⟩
  have hCs : CL.length = 3 * k := by rw [hCL, List.length_take, Array.length_toList]; omega
  have hCg : ∀ n, n < 3 * k → CL[n]? = C[n]? := fun n hn => by rw [hCL, List.getElem?_take_of_lt hn, Array.getElem?_toList]
  have hCj : ∀ j, j < k → CL[3 * j]? = some (.int .u64 (X j)) ∧ CL[3 * j + 1]? = some (.int .u64 (A j)) ∧ CL[3 * j + 2]? = some (.int .u64 (B j)) := fun j hj => by rw [hCg _ (by omega), hCg _ (by omega), hCg _ (by omega)]; exact hCj0 j hj
  have hC' : Blk w3 b0 192 C := (show Blk w b0 192 C from hC).keep hB3
  have hR0l : R0.length = 24 := by rw [hR0, List.length_replicate]
  have hk := HK.out.1
  have hone : ∀ v ∈ CL, v.oneCell' = true := by
    intro v hv
    obtain ⟨n, hn, he⟩ := List.getElem_of_mem hv
    have hn3 : n < 3 * k := by rw [← hCs]; exact hn
    have hj := hCj (n / 3) (by omega)
    have hh : CL[n]? = some v := by rw [List.getElem?_eq_getElem hn, he]
    have h3 : n = 3 * (n / 3) ∨ n = 3 * (n / 3) + 1 ∨ n = 3 * (n / 3) + 2 := by omega
    rcases h3 with e | e | e
    · rw [e, hj.1] at hh; injection hh with hh; rw [← hh]; rfl
    · rw [e, hj.2.1] at hh; injection hh with hh; rw [← hh]; rfl
    · rw [e, hj.2.2] at hh; injection hh with hh; rw [← hh]; rfl
  have hcp := run_copy_many (P := Tryz.prog) w3 139 139 3 192 3 bb 0 8 8 ⟨b0, 0, none⟩ k (k + 1) C3 266 CL Tryz.underlying139 row_size k3
    (by rw [hCs, show Nat.min k 8 = k from Nat.min_eq_left hk.2]; omega)
    (fun j v hv => by rw [show (⟨b0, 0, none⟩ : Addr).add j = ⟨b0, j, none⟩ by (simp [Addr.add]; omega), blk_cell hC', ← hCg j (by rw [← hCs]; exact (List.getElem?_eq_some_iff.1 hv).1)]; exact hv)
    (by rw [hCs, hC3]; simp [hR0l]; omega) hone
  rw [show Nat.min k 8 = k from Nat.min_eq_left hk.2, setRow_obj k3] at hcp
  obtain ⟨C4, hC4⟩ : ∃ C4 : Array Value, C4 = (C3.toList.take 0 ++ CL ++ C3.toList.drop (0 + CL.length)).toArray := ⟨_, rfl⟩
  rw [← hC4] at hcp
  replace hcp : (Builtin.copy_ #[139, 139] 3 #[.slice (some ⟨bb, 0, none⟩) 8 8, .slice (some ⟨b0, 0, none⟩) k (k + 1)]).run Tryz.prog w3 = .ok (.int .i64 (k : Int)) (setObj w3 bb (.cells C4 266 (0, 0))) := hcp
  have k4 : Blk (setObj w3 bb (.cells C4 266 (0, 0))) bb 266 C4 := setObj_at (lt_of_block k3) _
  have f4 : Fr (fun i => i = bb) w3 (setObj w3 bb (.cells C4 266 (0, 0))) := Fr.setObj (F := fun i => i = bb) (Fr.refl _ _) rfl _
  generalize (setObj w3 bb (.cells C4 266 (0, 0))) = w4 at hcp k4 f4
  have hne : g ≠ bb := by omega
  have HBB := Lib.hid (And.intro hbb (And.intro hg hne))
  have k24 : w4.cell? ⟨bb, 24, none⟩ = some (.slice none 0 0) := by
    rw [blk_cell k4, hC4, hC3]
    have hl : CL.length = 3 * k := hCs
    simp only [List.take_zero, List.nil_append, List.getElem?_toArray]
    rw [List.getElem?_append_right (by omega), List.getElem?_drop, hl, show 0 + 3 * k + (24 - 3 * k) = 24 by omega, List.getElem?_append_right (by omega), hR0l]; rfl
  have hap := run_app_nil'
  have k24w := k4.wr
  have H4 := Lib.hid (And.intro k4 (And.intro f4 (And.intro hC4 (And.intro hC3 (And.intro hCs (And.intro hCj (And.intro hR0l hk)))))))
  have H3 := Lib.hid (And.intro k2 (And.intro l3 hB3))
  clear hbb hg hne k4 f4 hC4 hC3 hCs hCj hR0l hR0 hk hone hC hC' hCs0 hCj0 hCL hCg k3 k2 l3 l2 hB3 hw2 hw3 s2 s3
  go_upto_region 5 with (fail)
  clear hcp
  have t6 : (0 : Int) ≤ (k : Int) := by omega
  go_region
  rw [setCell_obj H4.out.1]
  obtain ⟨C5, hC5⟩ : ∃ C5 : Array Value, C5 = C4.setIfInBounds 24 (.slice none 0 0) := ⟨_, rfl⟩
  rw [← hC5]
  have k5 : Blk (setObj w4 bb (.cells C5 266 (0, 0))) bb 266 C5 := setObj_at (lt_of_block H4.out.1) _
  have f5 : Fr (fun i => i = bb) w3 (setObj w4 bb (.cells C5 266 (0, 0))) := H4.out.2.1.trans (Fr.setObj (F := fun i => i = bb) (Fr.refl _ _) rfl _)
  have H5 := Lib.hid (And.intro k5 (And.intro f5 hC5))
  clear k5 f5 hC5 k24 k24w hap
  generalize (setObj w4 bb (.cells C5 266 (0, 0))) = w5 at H5 ⊢
  go_wp2
  go_ret
  obtain ⟨k4, f4, hC4, hC3, hCs, hCj, hR0l, hk⟩ := H4.out
  obtain ⟨k5, f5, hC5⟩ := H5.out
  obtain ⟨hbb, hg, hne⟩ := HBB.out
  obtain ⟨k2, l3, hB3⟩ := H3.out
  have hl : CL.length = 3 * k := hCs
  have h4s : C4.size = 28 := by rw [hC4, hC3]; simp [hR0l, hl]; omega
  have hget : ∀ i, 24 ≤ i → C4[i]? = ([Value.slice none 0 0, Value.int .i64 (k : Int), Value.int .i64 (W : Int), Value.slice (some ⟨g, 0, none⟩) m m] : List Value)[i - 24]? := by
    intro i hi
    rw [hC4, hC3]
    simp only [List.take_zero, List.nil_append, List.getElem?_toArray]
    rw [List.getElem?_append_right (by omega), List.getElem?_drop, hl, show 0 + 3 * k + (i - 3 * k) = i by omega, List.getElem?_append_right (by omega), hR0l]
  have hrow : ∀ i, i < 3 * k → C4[i]? = CL[i]? := by
    intro i hi
    rw [hC4]
    simp only [List.take_zero, List.nil_append, List.getElem?_toArray]
    rw [List.getElem?_append_left (by omega)]
  have h5o : ∀ i, i ≠ 24 → C5[i]? = C4[i]? := fun i hi => by rw [hC5, Array.getElem?_setIfInBounds_ne (Ne.symm hi)]
  have hD : Below w5.heap.size w5 w5.drew := below_draws (Below.refl _ _) 1
  refine ⟨⟨bb, g, k, W, X, A, B⟩, rfl, ⟨⟨C5, k5.keep hD, ⟨by rw [hC5]; simpa using h4s, by rw [hC5, Array.getElem?_setIfInBounds_self_of_lt (by omega)], by rw [h5o 25 (by omega), hget 25 (by omega)]; rfl, by rw [h5o 26 (by omega), hget 26 (by omega)]; rfl, by rw [h5o 27 (by omega), hget 27 (by omega), HK.out.2.2]; rfl, fun j hj => ?_⟩⟩, ?_, Ne.symm hne, ⟨hk, HK.out.2.1.1, by show 8 * (k * W) ≤ _; rw [← HK.out.2.2]; exact HK.out.2.1.2⟩, HL.out, fun _ _ => by show (0:Int) ≤ 0 ∧ (0:Int) ≤ 9223372036854775807; omega⟩, rfl, rfl, rfl, rfl, rfl, by show _ ≤ bb; have := B1.out.size; omega, by show _ ≤ g; have := B1.out.size; omega, ?_⟩
  · have hj : j < k := hj
    have h3 := hCj j hj
    rw [Nat.mul_comm 3 j] at h3
    rw [h5o (j * 3) (by omega), h5o (j * 3 + 1) (by omega), h5o (j * 3 + 2) (by omega), hrow _ (by omega), hrow _ (by omega), hrow _ (by omega)]
    exact h3
  · have q : Blk w5 g 2 (Array.replicate m (.int .i64 0)) := (Blk.keep k2 l3).fr f5 hne
    have e : Array.replicate m (Value.int .i64 0) = numC .i64 (Sk.tab (fun _ _ => 0) k W) := by
      unfold numC; rw [Sk.tab_zero, ← HK.out.2.2, List.map_replicate]; rfl
    rw [e] at q
    exact q.keep hD
  · exact (hB3.trans (f5.below hB3.size (fun i hi => by have := B1.out.size; omega))).trans (hD.mono (by have := hB3.size; have := f5.size; omega))
end Go.Proofs.YtannniobeanhlaaGreat
