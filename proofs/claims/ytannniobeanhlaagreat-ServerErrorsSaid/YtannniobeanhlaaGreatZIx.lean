import Derived.Test.YtannniobeanhlaaGreatZKy
import Derived.Test.YtannniobeanhlaaGreatHashR
import Derived.Test.YtannniobeanhlaaGreatZKyMath
import Derived.BigRegion
import Derived.WalkMore
import Derived.Test.YtannniobeanhlaaGreatMap
import Derived.Test.YtannniobeanhlaaGreatZObj
import Derived.BigQuiet
import Derived.Test.YtannniobeanhlaaGreatZArSum
import Derived.Deep.RegionHeld3
import Derived.Lib.SliceRun
/- The contracts of layer 5 (index): what reads. -/
namespace Go.Proofs.YtannniobeanhlaaGreat
set_option linter.unusedSimpArgs false
set_option linter.unusedVariables false
set_option maxRecDepth 100000
open Go.ChangeShapes Go.WideShapes Go.ChangeAt Go.RowKit
/-- whole numbers from 0 on as cells. -/
abbrev natC (k : IntKind) (l : List Nat) : Array Value := (l.map fun x : Nat => Value.int k (x : Int)).toArray
/-- what a callee that makes memory keeps: cells of a block, and all that is below. -/
theorem Calls.hold {S : World → Prop} {f : Nat} {args : Array Value} {v : Value} {w : World} (hS : ∀ b, Below w.heap.size w b → S b)
    (c : Calls Tryz.prog f args w fun e w' => e = .returned v ∧ Below w.heap.size w w') : Calls Tryz.prog f args w fun e w' => e = .returned v ∧ S w' :=
  c.mono (fun _ _ hh => ⟨hh.1, hS _ hh.2⟩)
theorem below_in {W0 w w' : World} (h : Below W0.heap.size W0 w) (b : Below w.heap.size w w') : Below W0.heap.size W0 w' := h.trans (b.mono h.size)
abbrev ixC (b X A B g m : Nat) : Array Value := #[.pointer (some ⟨b, 0, none⟩), .int .u64 (X : Int), .int .u64 (A : Int), .int .u64 (B : Int), .slice (some ⟨g, 0, none⟩) m m]
/-- an index in memory. -/
structure IxMem (w : World) (x b X A B g gb gs gf n m : Nat) (fl : List Nat) (K : Nat → Option ByteArray) (L : List Nat) : Prop where
  hx : Blk w x 222 (ixC b X A B g m)
  hg : Blk w g 74 (natC .u32 L)
  len : L.length = m
  sz : m = 2 * n + 1
  ks : KeysIn w b gb gs gf n fl K
  lX : X < 2305843009213693951
  lA : A < 2305843009213693951
  lB : B < 2305843009213693951
  ne : x ≠ g ∧ x ≠ b ∧ x ≠ gb ∧ x ≠ gs ∧ x ≠ gf ∧ g ≠ b ∧ g ≠ gb ∧ g ≠ gs ∧ g ≠ gf
/-- where the search for a key begins. -/
def ixH (X A B m : Nat) (s : ByteArray) : Nat := plc (Ha.hof X A B s.data.toList) (m : Int)
theorem ixH_lt (X A B : Nat) {m : Nat} (hm : 1 ≤ m) (s : ByteArray) : ixH X A B m s < m := by
  have := plc_lt (Ha.hof X A B s.data.toList) (n := (m : Int)) (by omega)
  rw [Int.toNat_natCast] at this
  exact this
theorem IxMem.keep {W w : World} {x b X A B g gb gs gf n m : Nat} {fl : List Nat} {K : Nat → Option ByteArray} {L : List Nat} (h : IxMem W x b X A B g gb gs gf n m fl K L) (hb : Below W.heap.size W w) : IxMem w x b X A B g gb gs gf n m fl K L :=
  ⟨h.hx.keep hb, h.hg.keep hb, h.len, h.sz, h.ks.keep hb, h.lX, h.lA, h.lB, h.ne⟩
section
variable {x b X A B g gb gs gf n m : Nat} {fl : List Nat} {K : Nat → Option ByteArray} {L : List Nat}
end
end Go.Proofs.YtannniobeanhlaaGreat
/- The contracts of layer 5 (index): the search. -/
namespace Go.Proofs.YtannniobeanhlaaGreat
set_option linter.unusedSimpArgs false
set_option linter.unusedVariables false
set_option maxRecDepth 100000
open Go.ChangeShapes Go.WideShapes Go.ChangeAt Go.RowKit
section
variable {x b X A B g gb gs gf n m : Nat} {fl : List Nat} {K : Nat → Option ByteArray} {L : List Nat}
end
end Go.Proofs.YtannniobeanhlaaGreat
/- The contracts of layer 5 (index): a hole is filled. -/
namespace Go.Proofs.YtannniobeanhlaaGreat
set_option linter.unusedSimpArgs false
set_option linter.unusedVariables false
set_option maxRecDepth 100000
open Go.ChangeShapes Go.WideShapes Go.ChangeAt Go.RowKit
section
variable {x b X A B g gb gs gf n m : Nat} {fl : List Nat} {K : Nat → Option ByteArray} {L : List Nat}
theorem IxMem.set {w : World} (h : IxMem w x b X A B g gb gs gf n m fl K L) (L' : List Nat) (hl : L'.length = m) : IxMem (setObj w g (.cells (natC .u32 L') 74 (0, 0))) x b X A B g gb gs gf n m fl K L' := by
  have ne := h.ne
  have hlt := lt_of_block h.hg
  refine ⟨(setObj_other w ne.1 _).trans h.hx, setObj_at hlt _, hl, h.sz, ?_, h.lX, h.lA, h.lB, ne⟩
  obtain ⟨bs, ss, fs, k⟩ := h.ks
  exact ⟨bs, ss, fs, (setObj_other w (Ne.symm ne.2.2.2.2.2.1) _).trans k.hb, (setObj_other w (Ne.symm ne.2.2.2.2.2.2.1) _).trans k.hgb, (setObj_other w (Ne.symm ne.2.2.2.2.2.2.2.1) _).trans k.hgs, (setObj_other w (Ne.symm ne.2.2.2.2.2.2.2.2) _).trans k.hgf, k.lb, k.ls, k.lf, k.vs, k.vf, k.vb, k.pl, k.n1, k.ne⟩
theorem IxMem.drewN {w : World} (h : IxMem w x b X A B g gb gs gf n m fl K L) (d : Nat) : IxMem (w.drewN d) x b X A B g gb gs gf n m fl K L := h.keep (below_draws (Below.refl _ _) d)
end
end Go.Proofs.YtannniobeanhlaaGreat
/- The contracts of layer 5 (index): Find, Put, Remove, New. -/
namespace Go.Proofs.YtannniobeanhlaaGreat
set_option linter.unusedSimpArgs false
set_option linter.unusedVariables false
set_option maxRecDepth 100000
open Go.ChangeShapes Go.WideShapes Go.ChangeAt Go.RowKit
/-- where an index and its store lie, and its function. -/
structure IxN where
  x : Nat
  b : Nat
  X : Nat
  A : Nat
  B : Nat
  g : Nat
  gb : Nat
  gs : Nat
  gf : Nat
  n : Nat
def IxN.h (N : IxN) : ByteArray → Nat := ixH N.X N.A N.B (2 * N.n + 1)
/-- the blocks that calls change. -/
def IxN.F (N : IxN) (k : Nat) : Prop := k = N.g ∨ kyF N.b N.gb N.gs N.gf k
/-- an index, with its keys. -/
def IdxIn (w : World) (N : IxN) (fl : List Nat) (K : Nat → Option ByteArray) : Prop :=
  ∃ L, IxMem w N.x N.b N.X N.A N.B N.g N.gb N.gs N.gf N.n (2 * N.n + 1) fl K L ∧ Ix.Tab (2 * N.n + 1) N.n N.h K (fun q => L.getD q 0)
theorem IdxIn.keep {W w : World} {N : IxN} {fl : List Nat} {K : Nat → Option ByteArray} (h : IdxIn W N fl K) (hb : Below W.heap.size W w) : IdxIn w N fl K := by
  obtain ⟨L, hm, ht⟩ := h
  exact ⟨L, hm.keep hb, ht⟩
theorem IdxIn.ks {w : World} {N : IxN} {fl : List Nat} {K : Nat → Option ByteArray} (h : IdxIn w N fl K) : KeysIn w N.b N.gb N.gs N.gf N.n fl K := by
  obtain ⟨L, hm, ht⟩ := h; exact hm.ks
theorem IdxIn.key {w : World} {N : IxN} {fl : List Nat} {K : Nat → Option ByteArray} (h : IdxIn w N fl K) {i j : Nat} {s : ByteArray} (hi : K i = some s) (hj : K j = some s) : i = j := by
  obtain ⟨L, hm, ht⟩ := h; exact ht.key i j s hi hj
theorem IdxIn.lt {w : World} {N : IxN} {fl : List Nat} {K : Nat → Option ByteArray} (h : IdxIn w N fl K) : ∀ k, (N.F k ∨ k = N.x) → k < w.heap.size := by
  obtain ⟨L, hm, ht⟩ := h
  have h1 := hm.ks.lt
  have h2 := lt_of_block hm.hg
  have h3 := lt_of_block hm.hx
  rintro k ((hk | hk | hk | hk | hk) | hk) <;> omega
/-- nothing that an index stands on is changed. -/
theorem KeysIn.fr {W w : World} {b gb gs gf n : Nat} {fl : List Nat} {K : Nat → Option ByteArray} {F : Nat → Prop} (h : KeysIn W b gb gs gf n fl K) (hf : Fr F W w) (h1 : ¬ F b) (h2 : ¬ F gb) (h3 : ¬ F gs) (h4 : ¬ F gf) : KeysIn w b gb gs gf n fl K := by
  obtain ⟨bs, ss, fs, h⟩ := h
  exact ⟨bs, ss, fs, h.hb.fr hf h1, h.hgb.fr hf h2, h.hgs.fr hf h3, h.hgf.fr hf h4, h.lb, h.ls, h.lf, h.vs, h.vf, h.vb, h.pl, h.n1, h.ne⟩
theorem IdxIn.fr {W w : World} {N : IxN} {fl : List Nat} {K : Nat → Option ByteArray} {F : Nat → Prop} (h : IdxIn W N fl K) (hf : Fr F W w) (h1 : ∀ k, (N.F k ∨ k = N.x) → ¬ F k) : IdxIn w N fl K := by
  obtain ⟨L, hm, ht⟩ := h
  exact ⟨L, ⟨hm.hx.fr hf (h1 _ (Or.inr rfl)), hm.hg.fr hf (h1 _ (Or.inl (Or.inl rfl))), hm.len, hm.sz, hm.ks.fr hf (h1 _ (Or.inl (Or.inr (Or.inl rfl)))) (h1 _ (Or.inl (Or.inr (Or.inr (Or.inl rfl))))) (h1 _ (Or.inl (Or.inr (Or.inr (Or.inr (Or.inl rfl)))))) (h1 _ (Or.inl (Or.inr (Or.inr (Or.inr (Or.inr rfl)))))), hm.lX, hm.lA, hm.lB, hm.ne⟩, ht⟩
section
variable {N : IxN} {fl : List Nat} {K : Nat → Option ByteArray}
end
/-! #### none -/
theorem ixsize_any (n : Nat) (hn : n ≤ 65536) (w : World) : Calls Tryz.prog 150 #[.int .i64 (n : Int)] w fun e w' => e = .returned (.int .i64 ((2 * n + 1 : Nat) : Int)) ∧ w = w' := by
  have t1 : (n : Int) ≤ 65536 := by omega
  go_enter Tryz.func150, Tryz.ntmps150
  go_wp2
  go_ret
  exact ⟨ret_i (by omega), rfl⟩
theorem hold_alloc {W1 : World} {rb : Nat} {t : TypeId} {C : Array Value} (h : Blk W1 rb t C) (o : Obj) : (∀ j, (W1.alloc o).drew.cell? ⟨rb, j, none⟩ = C[j]?) ∧ Below W1.heap.size W1 (W1.alloc o).drew :=
  ⟨((h.alloc o).drew).rd, below_draws ((Below.refl _ _).alloc (Nat.le_refl _) _) 1⟩
theorem hold_alloc2 {W1 : World} {rb : Nat} {t : TypeId} {C : Array Value} (h : Blk W1 rb t C) (o o' : Obj) : (∀ j, ((W1.alloc o).alloc o').drew.cell? ⟨rb, j, none⟩ = C[j]?) ∧ Below W1.heap.size W1 ((W1.alloc o).alloc o').drew :=
  ⟨(((h.alloc o).alloc o').drew).rd, below_draws (((Below.refl _ _).alloc (Nat.le_refl _) _).alloc (by simp) _) 1⟩
theorem info_u32 : (Tryz.prog.info? 74).map (fun i => (i.zero, i.size, i.bytes)) = some (some (.int .u32 0), 1, 4) := by kernel_rfl
theorem natC_zero (k : IntKind) (n : Nat) : numC k (List.replicate n 0) = natC k (List.replicate n 0) := by simp [numC, natC]
set_option maxHeartbeats 2000000 in
theorem ixnew_any (X A B : Nat) (hX : X < 2305843009213693951) (hA : A < 2305843009213693951) (hB : B < 2305843009213693951) (b gb gs gf n : Nat) (fl : List Nat) (w : World) (h : KeysIn w b gb gs gf n fl (fun _ => none)) :
    Calls Tryz.prog 119 #[.pointer (some ⟨b, 0, none⟩), .agg #[.int .u64 X, .int .u64 A, .int .u64 B]] w fun e w' => ∃ x g, e = .returned (.pointer (some ⟨x, 0, none⟩)) ∧ IdxIn w' ⟨x, b, X, A, B, g, gb, gs, gf, n⟩ fl (fun _ => none) ∧ Below w.heap.size w w' ∧ w.heap.size ≤ x ∧ w.heap.size ≤ g := by
  have hn := h.pl.2.1
  obtain ⟨m, hm⟩ : ∃ m, m = 2 * n + 1 := ⟨_, rfl⟩
  obtain ⟨i0, hi, hz0, hz1, hz2⟩ := info_parts info_u32
  have hmk := make_num (P := Tryz.prog) (t := 211) (e := 74) Tryz.underlying211 hi hz0 hz1 hz2 m (by omega) (by omega)
  have t0 : (m : Int) ≤ 131073 := by omega
  have CS := Lib.hid (fun w => ixsize_any n hn w)
  rw [← hm] at CS
  have HH := Lib.hid h
  have HM := Lib.hid (And.intro hm hn)
  clear hi hz0 hz1 hz2 h hn hm
  go_enter Tryz.func119, Tryz.ntmps119
  go_upto_region 3 with (fail)
  obtain ⟨w1, hw1, hbk, hbl, hsz⟩ := box_new w #[.int .u64 (X : Int), .int .u64 (A : Int), .int .u64 (B : Int)] 192
  rw [hw1]
  have CL := Lib.hid (fun wx (hx : Below w1.heap.size w1 wx) => len_any wx ((HH.out.keep hbl).keep hx))
  obtain ⟨rb, hrb⟩ : ∃ rb, rb = w.heap.size := ⟨_, rfl⟩
  rw [← hrb] at hbk ⊢
  have k := hbk.rd
  have HB := Lib.hid hbl
  have HS := Lib.hid (And.intro hsz hrb)
  have BK := Lib.hid hbk
  clear hbk hbl hsz hw1 hrb
  have y1 : ∀ j, w1.drew.cell? ⟨rb, j, none⟩ = (#[.int .u64 (X : Int), .int .u64 (A : Int), .int .u64 (B : Int)] : Array Value)[j]? := k
  have y2 : Below w1.heap.size w1 w1.drew := below_draws (Below.refl _ _) 1
  clear k
  go_region_held3 (fun w' => (∀ j, w'.cell? ⟨rb, j, none⟩ = (#[.int .u64 (X : Int), .int .u64 (A : Int), .int .u64 (B : Int)] : Array Value)[j]?) ∧ Below w1.heap.size w1 w') (first | (refine ⟨?_, ?_⟩ <;> assumption) | exact hold_alloc BK.out _ | exact hold_alloc2 BK.out _ _)
    (first
      | (go_at_call 85; ((with_reducible refine (CL.out _ (by assumption)).mono ?_); rintro e w2 ⟨rfl, rfl⟩))
      | (go_at_call 150; ((with_reducible refine (CS.out _).mono ?_); rintro e w3 ⟨rfl, rfl⟩)))
  go_wp2
  go_ret
  obtain ⟨w2, hw2, b2k, b2l, s2⟩ := box_new w1 (numC .u32 (List.replicate m 0)) 74
  rw [hw2]
  obtain ⟨w3, hw3, b3k, b3l, s3⟩ := box_new w2 (ixC b X A B w1.heap.size m) 222
  refine ⟨w1.heap.size + 1, w1.heap.size, rfl, ?_⟩
  have e3 : w2.alloc (.cells #[.pointer (some ⟨b, 0, none⟩), .int .u64 (X : Int), .int .u64 (A : Int), .int .u64 (B : Int), .slice (some ⟨w1.heap.size, 0, none⟩) m m] 222) = w3 := hw3
  rw [e3]
  have hlt := HH.out.lt
  have hs := HS.out
  have bb := HB.out
  have bs := bb.size
  have l1 := below_in (below_in bb b2l) b3l
  have l2 : Below w.heap.size w w3.drew := below_draws l1 1
  have hm := HM.out.1
  refine ⟨⟨List.replicate m 0, ⟨?_, ?_, ?_, rfl, HH.out.keep l2, hX, hA, hB, ?_⟩, ?_⟩, l2, by omega, by omega⟩
  · rw [s2] at b3k
    rw [← hm]
    exact b3k
  · have := b2k.keep b3l
    rw [natC_zero] at this
    exact this
  · rw [List.length_replicate]; exact hm
  · show (w1.heap.size + 1 ≠ w1.heap.size ∧ w1.heap.size + 1 ≠ b ∧ w1.heap.size + 1 ≠ gb ∧ w1.heap.size + 1 ≠ gs ∧ w1.heap.size + 1 ≠ gf ∧ w1.heap.size ≠ b ∧ w1.heap.size ≠ gb ∧ w1.heap.size ≠ gs ∧ w1.heap.size ≠ gf)
    omega
  · have e : (fun q => (List.replicate m 0).getD q 0) = fun _ => 0 := by
      funext q
      simp only [List.getD]
      by_cases hq : q < m
      · simp [hq]
      · simp [hq]
    rw [e]
    exact Ix.tab_new n _ (fun s => ixH_lt X A B (by omega) s)
end Go.Proofs.YtannniobeanhlaaGreat
/- The contracts of layer 5 (index), over what an index has: one for each call, whatever its way. -/
namespace Go.Proofs.YtannniobeanhlaaGreat
set_option linter.unusedSimpArgs false
set_option linter.unusedVariables false
set_option maxRecDepth 100000
open Go.ChangeShapes Go.WideShapes Go.ChangeAt Go.RowKit
/-- where a key is. -/
def posN (n : Nat) (K : Nat → Option ByteArray) (s : ByteArray) : Option Nat := (List.range n).find? (fun i => decide (K i = some s))
/-- what a store has: which places are free, in which order, and the keys of the others. -/
structure KSt where
  fl : List Nat
  K : Nat → Option ByteArray
def KSt.put (n : Nat) (σ : KSt) (s : ByteArray) : KSt × Option Nat :=
  match posN n σ.K s with
  | some _ => (σ, none)
  | none => if 64 < s.size then (σ, none) else
    match σ.fl.getLast? with
    | none => (σ, none)
    | some i => (⟨σ.fl.dropLast, fun j => if j = i then some s else σ.K j⟩, some i)
def KSt.del (n : Nat) (σ : KSt) (s : ByteArray) : KSt × Option Nat :=
  match posN n σ.K s with
  | some i => (⟨σ.fl ++ [i], fun j => if j = i then none else σ.K j⟩, some i)
  | none => (σ, none)
def kNew (n : Nat) : KSt := ⟨(List.range n).reverse, fun _ => none⟩
abbrev IdxAt (w : World) (N : IxN) (σ : KSt) : Prop := IdxIn w N σ.fl σ.K
theorem IdxIn.uni {w : World} {N : IxN} {fl : List Nat} {K : Nat → Option ByteArray} (h : IdxIn w N fl K) : (∀ i j s, K i = some s → K j = some s → i = j) ∧ (∀ i s, K i = some s → i < N.n ∧ s.size ≤ 64) ∧ N.n ≤ 65536 ∧ Places N.n fl K := by
  obtain ⟨L, hm, ht⟩ := h
  exact ⟨ht.key, fun i s hi => ⟨ht.lt i s hi, hm.ks.pl.2.2 i s hi⟩, hm.ks.pl.2.1, hm.ks.pl.1⟩
section
variable {N : IxN} {σ : KSt}
/-- a new index of a new store. -/
theorem ixnew_st (X A B : Nat) (hX : X < 2305843009213693951) (hA : A < 2305843009213693951) (hB : B < 2305843009213693951) (b gb gs gf n : Nat) (w : World) (h : KeysIn w b gb gs gf n (kNew n).fl (fun _ => none)) :
    Calls Tryz.prog 119 #[.pointer (some ⟨b, 0, none⟩), .agg #[.int .u64 X, .int .u64 A, .int .u64 B]] w fun e w' => ∃ x g, e = .returned (.pointer (some ⟨x, 0, none⟩)) ∧ IdxAt w' ⟨x, b, X, A, B, g, gb, gs, gf, n⟩ (kNew n) ∧ Below w.heap.size w w' ∧ w.heap.size ≤ x ∧ w.heap.size ≤ g :=
  ixnew_any X A B hX hA hB b gb gs gf n _ w h
end
end Go.Proofs.YtannniobeanhlaaGreat
/- What a map of places keeps beside an index. -/
namespace Go.Proofs.YtannniobeanhlaaGreat
set_option linter.unusedSimpArgs false
set_option linter.unusedVariables false
set_option maxRecDepth 100000
open Go.ChangeShapes Go.WideShapes Go.ChangeAt Go.RowKit
end Go.Proofs.YtannniobeanhlaaGreat
/- The contracts of layer 10 (pool). -/
namespace Go.Proofs.YtannniobeanhlaaGreat
set_option linter.unusedSimpArgs false
set_option linter.unusedVariables false
set_option maxRecDepth 100000
open Go.ChangeShapes Go.WideShapes Go.ChangeAt Go.RowKit
/-- a cell: four numbers. -/
abbrev Cel := Int × Int × Int × Int
def encC (c : Cel) : List Value := [.int .i64 c.1, .int .i64 c.2.1, .int .i64 c.2.2.1, .int .i64 c.2.2.2]
theorem encC_len (c : Cel) : (encC c).length = 4 := rfl
/-- where a pool lies. -/
structure PlN where
  p : Nat
  cb : Nat
  N : IxN
def PlN.F (Q : PlN) (k : Nat) : Prop := Q.N.F k ∨ k = Q.cb
/-- all its blocks. -/
def PlN.all (Q : PlN) (k : Nat) : Prop := Q.F k ∨ k = Q.N.x ∨ k = Q.p
abbrev poolC (Q : PlN) : Array Value := #[.pointer (some ⟨Q.N.b, 0, none⟩), .pointer (some ⟨Q.N.x, 0, none⟩), .slice (some ⟨Q.cb, 0, none⟩) Q.N.n Q.N.n]
/-- a pool in memory: what its index has, its cells. -/
structure PlAt (w : World) (Q : PlN) (σ : KSt) (C : List Cel) : Prop where
  hp : Blk w Q.p 173 (poolC Q)
  hc : Blk w Q.cb 105 (rws encC C).toArray
  len : C.length = Q.N.n
  ix : IdxAt w Q.N σ
  n1 : Q.N.n ≤ 1024
  ne : Q.p ≠ Q.cb ∧ (∀ k, Q.N.F k ∨ k = Q.N.x → k ≠ Q.cb ∧ k ≠ Q.p)
theorem PlAt.keep {W w : World} {Q : PlN} {σ : KSt} {C : List Cel} (h : PlAt W Q σ C) (hb : Below W.heap.size W w) : PlAt w Q σ C := ⟨h.hp.keep hb, h.hc.keep hb, h.len, h.ix.keep hb, h.n1, h.ne⟩
theorem PlAt.fr {W w : World} {Q : PlN} {σ : KSt} {C : List Cel} {F : Nat → Prop} (h : PlAt W Q σ C) (hf : Fr F W w) (hF : ∀ k, Q.all k → ¬ F k) : PlAt w Q σ C :=
  ⟨h.hp.fr hf (hF _ (Or.inr (Or.inr rfl))), h.hc.fr hf (hF _ (Or.inl (Or.inr rfl))), h.len, h.ix.fr hf (fun k hk => hF k (by rcases hk with hk | hk; exact Or.inl (Or.inl hk); exact Or.inr (Or.inl hk))), h.n1, h.ne⟩
theorem PlAt.lt {w : World} {Q : PlN} {σ : KSt} {C : List Cel} (h : PlAt w Q σ C) : ∀ k, Q.all k → k < w.heap.size := by
  rintro k ((hk | hk) | hk | hk)
  · exact h.ix.lt k (Or.inl hk)
  · rw [hk]; exact lt_of_block h.hc
  · exact h.ix.lt k (Or.inr hk)
  · rw [hk]; exact lt_of_block h.hp
def plSet (C : List Cel) (c : Cel) : Option Nat → List Cel
  | some i => C.set i c
  | none => C
section
variable {Q : PlN} {σ : KSt} {C : List Cel}
theorem PlAt.cell {w : World} (h : PlAt w Q σ C) {i : Nat} {c : Cel} (hi : C[i]? = some c) : w.cell? ⟨Q.cb, i * 4, none⟩ = some (.int .i64 c.1) ∧ w.cell? ⟨Q.cb, i * 4 + 1, none⟩ = some (.int .i64 c.2.1) ∧ w.cell? ⟨Q.cb, i * 4 + 2, none⟩ = some (.int .i64 c.2.2.1) ∧ w.cell? ⟨Q.cb, i * 4 + 3, none⟩ = some (.int .i64 c.2.2.2) :=
  ⟨rws_cell encC_len h.hc hi (j := 0) (by omega), rws_cell encC_len h.hc hi (j := 1) (by omega), rws_cell encC_len h.hc hi (j := 2) (by omega), rws_cell encC_len h.hc hi (j := 3) (by omega)⟩
theorem hold_al {W0 W1 : World} {rb : Nat} {C : Array Value} (h : ∀ j, W1.cell? ⟨rb, j, none⟩ = C[j]?) (hb : Below W0.heap.size W0 W1) (hr : rb < W0.heap.size) (o : Obj) : (∀ j, (W1.alloc o).cell? ⟨rb, j, none⟩ = C[j]?) ∧ Below W0.heap.size W0 (W1.alloc o) :=
  ⟨fun j => by rw [← h j]; exact (Fr.alloc (F := fun _ => False) (Fr.refl _ _) o).cell (by have := hb.size; omega) (fun h => h), hb.alloc hb.size o⟩
theorem info_cel : (Tryz.prog.info? 105).map (fun i => (i.zero, i.size, i.bytes)) = some (some (.agg #[.int .i64 0, .int .i64 0, .int .i64 0, .int .i64 0]), 4, 32) := by kernel_rfl
set_option maxHeartbeats 4000000 in
theorem plnew_any (X A B : Nat) (hX : X < 2305843009213693951) (hA : A < 2305843009213693951) (hB : B < 2305843009213693951) (n : Nat) (h1 : 1 ≤ n) (hn : n ≤ 1024) (w : World) :
    Calls Tryz.prog 92 #[.int .i64 (n : Int), .agg #[.int .u64 X, .int .u64 A, .int .u64 B]] w fun e w' => ∃ Q : PlN, e = .returned (.pointer (some ⟨Q.p, 0, none⟩)) ∧ PlAt w' Q (kNew n) (List.replicate n (0, 0, 0, 0)) ∧ Q.N.n = n ∧ (∀ k, Q.all k → w.heap.size ≤ k) ∧ Below w.heap.size w w' := by
  obtain ⟨i0, hi, hz0, hz1, hz2⟩ := info_parts info_cel
  have hmk := make_rws encC_len (by omega) (0, 0, 0, 0) (P := Tryz.prog) (t := 171) (e := 105) rfl Tryz.underlying171 hi hz0 hz1 hz2 n (by omega) (by omega)
  have CK := Lib.hid (fun w => new_yes n (by omega) w)
  have t1 : decide ((n : Int) < 1) = false := by rw [decide_eq_false_iff_not]; omega
  have t2 : decide ((1024 : Int) < (n : Int)) = false := by rw [decide_eq_false_iff_not]; omega
  have t0 : (n : Int) ≤ 1024 := by omega
  have HN := Lib.hid (And.intro h1 hn)
  clear hi hz0 hz1 hz2 h1 hn
  go_enter Tryz.func92, Tryz.ntmps92
  go_upto_region 1 with (fail)
  obtain ⟨w1, hw1, hbk, hbl, hsz⟩ := box_new w #[.int .u64 (X : Int), .int .u64 (A : Int), .int .u64 (B : Int)] 192
  rw [hw1]
  obtain ⟨rb, hrb⟩ : ∃ rb, rb = w.heap.size := ⟨_, rfl⟩
  rw [← hrb] at hbk ⊢
  have BK := Lib.hid hbk
  have HB := Lib.hid hbl
  have HS := Lib.hid (And.intro hsz hrb)
  clear hbk hbl hsz hw1 hrb
  go_upto_region 4 with (go_at_call 118; ((with_reducible refine (CK.out _).mono ?_); rintro e w2 ⟨sb, sgb, sgs, sgf, rfl, hk, bk, hb⟩; have KK := Lib.hid hk; have HBB := Lib.hid hb; have K2 := Lib.hid (BK.out.keep bk); have HB2 := Lib.hid (below_in HB.out bk); have HZ := Lib.hid bk.size; clear hk bk hb))
  have k : ∀ j, w2.drew.cell? ⟨rb, j, none⟩ = (#[.int .u64 (X : Int), .int .u64 (A : Int), .int .u64 (B : Int)] : Array Value)[j]? := K2.out.drew.rd
  have y2 : Below w2.heap.size w2 w2.drew := below_draws (Below.refl _ _) 1
  have RL := Lib.hid (lt_of_block K2.out)
  have CI := Lib.hid (fun wx (hx : Below w2.heap.size w2 wx) => show Calls Tryz.prog 119 #[.pointer (some ⟨sb, 0, none⟩), .agg #[.int .u64 X, .int .u64 A, .int .u64 B]] wx (fun e w' => ∃ x g, e = .returned (.pointer (some ⟨x, 0, none⟩)) ∧ IdxAt w' ⟨x, sb, X, A, B, g, sgb, sgs, sgf, n⟩ (kNew n) ∧ (∀ j, w'.cell? ⟨rb, j, none⟩ = (#[.int .u64 (X : Int), .int .u64 (A : Int), .int .u64 (B : Int)] : Array Value)[j]?) ∧ Below w2.heap.size w2 w' ∧ Below wx.heap.size wx w' ∧ wx.heap.size ≤ x ∧ wx.heap.size ≤ g) from (ixnew_st X A B hX hA hB sb sgb sgs sgf n wx (KK.out.keep hx)).mono (fun e w' ⟨x, g, he, hi, hb, hx1, hg1⟩ => ⟨x, g, he, hi, ((K2.out.keep hx).keep hb).rd, below_in hx hb, hb, hx1, hg1⟩))
  go_region_held3 (fun w' => (∀ j, w'.cell? ⟨rb, j, none⟩ = (#[.int .u64 (X : Int), .int .u64 (A : Int), .int .u64 (B : Int)] : Array Value)[j]?) ∧ Below w2.heap.size w2 w') (first | (refine ⟨?_, ?_⟩ <;> assumption) | exact hold_al (by assumption) (by assumption) RL.out _ | exact hold_al (hold_al (by assumption) (by assumption) RL.out _).1 (hold_al (by assumption) (by assumption) RL.out _).2 RL.out _)
    ((go_at_call 119; ((with_reducible refine (CI.out _ (by first | assumption | exact And.right (by assumption))).mono ?_); rintro e w3 ⟨x, g, rfl, hi, z1, z2, z3, z4, z5⟩; have I3 := Lib.hid hi; have B3 := Lib.hid z3; have X3 := Lib.hid (And.intro z4 z5); clear hi z3 z4 z5)))
  all_goals
    go_wp2
    go_ret
  all_goals
    have hn := HN.out
    have hkl := KK.out.lt
    have hbb := HBB.out
    have hx := X3.out
    have hil := I3.out.lt
    have l1 := hil x (Or.inr rfl)
    have l2 := hil g (Or.inl (Or.inl rfl))
    have l3 := z2.size
    have l4 := HZ.out
    have l5 := HS.out
    have l6 := HB.out.size
    have l7 : w2.drew.heap.size = w2.heap.size := rfl
  · obtain ⟨w4, hw4, k4, b4, s4⟩ := box_new w3 (rws encC (List.replicate n (0, 0, 0, 0))).toArray 105
    rw [hw4]
    obtain ⟨w5, hw5, k5, b5, s5⟩ := box_new w4 #[.pointer (some ⟨sb, 0, none⟩), .pointer (some ⟨x, 0, none⟩), .slice (some ⟨w3.heap.size, 0, none⟩) n n] 173
    rw [hw5]
    rw [s4] at k5
    have bb := below_in (below_in (below_in HB2.out z2) b4) b5
    refine ⟨⟨w3.heap.size + 1, w3.heap.size, ⟨x, sb, X, A, B, g, sgb, sgs, sgf, n⟩⟩, rfl, ⟨k5, k4.keep b5, by rw [List.length_replicate], (I3.out.keep b4).keep b5, hn.2, by simp only; omega, ?_⟩, rfl, ?_, bb⟩
    · rintro k ((hk | hk | hk | hk | hk) | hk) <;> simp only at hk ⊢ <;> omega
    · rintro k (((hk | hk | hk | hk | hk) | hk) | hk | hk) <;> simp only at hk ⊢ <;> omega
  · obtain ⟨w5, hw5, k5, b5, s5⟩ := box_new w3 #[.pointer (some ⟨sb, 0, none⟩), .pointer (some ⟨x, 0, none⟩), .slice (some ⟨w2.heap.size, 0, none⟩) n n] 173
    rw [hw5]
    have k4 : Blk w3 w2.heap.size 105 (rws encC (List.replicate n (0, 0, 0, 0))).toArray := by
      obtain ⟨w4, hw4, k4, b4, s4⟩ := box_new w2 (rws encC (List.replicate n (0, 0, 0, 0))).toArray 105
      have b3 := B3.out
      rw [hw4] at b3
      exact k4.drew.keep b3
    have l8 : (w2.alloc (Obj.cells (rws encC (List.replicate n (0, 0, 0, 0))).toArray 105)).drew.heap.size = w2.heap.size + 1 := by
      show (w2.heap.push _).size = _
      simp
    rw [l8] at hx
    have bb := below_in (below_in HB2.out z2) b5
    refine ⟨⟨w3.heap.size, w2.heap.size, ⟨x, sb, X, A, B, g, sgb, sgs, sgf, n⟩⟩, rfl, ⟨k5, k4.keep b5, by rw [List.length_replicate], I3.out.keep b5, hn.2, by simp only; omega, ?_⟩, rfl, ?_, bb⟩
    · rintro k ((hk | hk | hk | hk | hk) | hk) <;> simp only at hk ⊢ <;> omega
    · rintro k (((hk | hk | hk | hk | hk) | hk) | hk | hk) <;> simp only at hk ⊢ <;> omega
end
end Go.Proofs.YtannniobeanhlaaGreat
/- The contracts of layer 6 (slot). -/
namespace Go.Proofs.YtannniobeanhlaaGreat
set_option linter.unusedSimpArgs false
set_option linter.unusedVariables false
set_option maxRecDepth 100000
open Go.ChangeShapes Go.WideShapes Go.ChangeAt Go.RowKit
open Ar (inR)
/-- where a sketch lies, and its functions. -/
structure SlN where
  b : Nat
  g : Nat
  k : Nat
  W : Nat
  X : Nat → Nat
  A : Nat → Nat
  B : Nat → Nat
/-- a key's place in a row. -/
def SlN.P (N : SlN) (j : Nat) (s : ByteArray) : Nat := plc (Ha.hof (N.X j) (N.A j) (N.B j) s.data.toList) (N.W : Int)
/-- its block. -/
structure SlC (N : SlN) (C : Array Value) : Prop where
  sz : C.size = 28
  m : C[24]? = some (.slice none 0 0)
  d : C[25]? = some (.int .i64 (N.k : Int))
  w : C[26]? = some (.int .i64 (N.W : Int))
  c : C[27]? = some (.slice (some ⟨N.g, 0, none⟩) (N.k * N.W) (N.k * N.W))
  r : ∀ j, j < N.k → C[j * 3]? = some (.int .u64 (N.X j)) ∧ C[j * 3 + 1]? = some (.int .u64 (N.A j)) ∧ C[j * 3 + 2]? = some (.int .u64 (N.B j))
/-- a sketch in memory. -/
structure SlAt (w : World) (N : SlN) (f : Nat → Nat → Int) : Prop where
  hb : ∃ C, Blk w N.b 266 C ∧ SlC N C
  hg : Blk w N.g 2 (numC .i64 (Sk.tab f N.k N.W))
  ne : N.b ≠ N.g
  bd : (1 ≤ N.k ∧ N.k ≤ 8) ∧ 1 ≤ N.W ∧ 8 * (N.k * N.W) ≤ 2147483647
  lt : ∀ j, j < N.k → N.X j < 2305843009213693951 ∧ N.A j < 2305843009213693951 ∧ N.B j < 2305843009213693951
  ok : Sk.okC f
section
variable {w w' : World} {N : SlN} {f : Nat → Nat → Int}
theorem SlAt.keep {W : World} (h : SlAt W N f) (hb : Below W.heap.size W w) : SlAt w N f := by
  obtain ⟨C, h1, h2⟩ := h.hb
  exact ⟨⟨C, h1.keep hb, h2⟩, h.hg.keep hb, h.ne, h.bd, h.lt, h.ok⟩
theorem SlAt.fr {W : World} {F : Nat → Prop} (h : SlAt W N f) (hf : Fr F W w) (h1 : ¬ F N.b) (h2 : ¬ F N.g) : SlAt w N f := by
  obtain ⟨C, c1, c2⟩ := h.hb
  exact ⟨⟨C, c1.fr hf h1, c2⟩, h.hg.fr hf h2, h.ne, h.bd, h.lt, h.ok⟩
theorem SlAt.cells (h : SlAt w N f) : w.cell? ⟨N.b, 24, none⟩ = some (.slice none 0 0) ∧ w.cell? ⟨N.b, 25, none⟩ = some (.int .i64 (N.k : Int)) ∧ w.cell? ⟨N.b, 26, none⟩ = some (.int .i64 (N.W : Int)) ∧ w.cell? ⟨N.b, 27, none⟩ = some (.slice (some ⟨N.g, 0, none⟩) (N.k * N.W) (N.k * N.W)) := by
  obtain ⟨C, h1, h2⟩ := h.hb
  exact ⟨by rw [blk_cell h1]; exact h2.m, by rw [blk_cell h1]; exact h2.d, by rw [blk_cell h1]; exact h2.w, by rw [blk_cell h1]; exact h2.c⟩
theorem SlAt.row (h : SlAt w N f) {j : Nat} (hj : j < N.k) : w.cell? ⟨N.b, j * 3, none⟩ = some (.int .u64 (N.X j)) ∧ w.cell? ⟨N.b, j * 3 + 1, none⟩ = some (.int .u64 (N.A j)) ∧ w.cell? ⟨N.b, j * 3 + 2, none⟩ = some (.int .u64 (N.B j)) := by
  obtain ⟨C, h1, h2⟩ := h.hb
  have := h2.r j hj
  exact ⟨by rw [blk_cell h1]; exact this.1, by rw [blk_cell h1]; exact this.2.1, by rw [blk_cell h1]; exact this.2.2⟩
theorem SlAt.put {g : Nat → Nat → Int} (h : SlAt w N f) (hg : Sk.okC g) : SlAt (setObj w N.g (.cells (numC .i64 (Sk.tab g N.k N.W)) 2 (0, 0))) N g := by
  have hf : Fr (fun k => k = N.g) w (setObj w N.g (.cells (numC .i64 (Sk.tab g N.k N.W)) 2 (0, 0))) := Fr.setObj (F := fun k => k = N.g) (Fr.refl _ w) rfl _
  obtain ⟨C, c1, c2⟩ := h.hb
  exact ⟨⟨C, c1.fr hf h.ne, c2⟩, setObj_at (lt_of_block h.hg) _, h.ne, h.bd, h.lt, hg⟩
end
end Go.Proofs.YtannniobeanhlaaGreat
/- The example of layer 5 (index), and what its laws begin with. -/
namespace Go.Proofs.YtannniobeanhlaaGreat
set_option linter.unusedSimpArgs false
set_option linter.unusedVariables false
set_option maxRecDepth 100000
open Go.ChangeShapes Go.WideShapes Go.ChangeAt Go.RowKit
end Go.Proofs.YtannniobeanhlaaGreat
