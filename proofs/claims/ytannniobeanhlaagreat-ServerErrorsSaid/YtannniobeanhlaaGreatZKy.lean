import Derived.Test.YtannniobeanhlaaGreatByt
import Derived.Test.YtannniobeanhlaaGreatZKyMath
import Derived.Deep.RegionHeld3
import Derived.StillTailTactics
import Derived.BigQuiet
import Derived.Below
import Derived.Deep.LoopGhost
import Derived.Deep.QuietTactic
import Derived.Outline
import Derived.Deep.Cut
import Derived.Laws.IdiomCopy
import Derived.Lib.LazyBuf
import Derived.WalkSpells
/- The contracts of layer 4 (keys). -/
namespace Go.Proofs.YtannniobeanhlaaGreat
set_option linter.unusedSimpArgs false
set_option linter.unusedVariables false
set_option maxRecDepth 100000
open Go.ChangeShapes Go.WideShapes Go.ChangeAt Go.RowKit
abbrev numC (k : IntKind) (l : List Int) : Array Value := (l.map (Value.int k)).toArray
theorem numC_get (k : IntKind) (arr : List Int) (i : Nat) (h : i < arr.length) : (numC k arr)[i]? = some (.int k (arr.getD i 0)) := by
  unfold numC
  rw [List.getElem?_toArray, List.getElem?_map, List.getElem?_eq_getElem h]
  simp [List.getD, h]
theorem numC_set (k : IntKind) (l : List Int) (i : Nat) (v : Int) : (numC k l).setIfInBounds i (.int k v) = numC k (l.set i v) := by
  unfold numC; simp only [List.map_set, List.setIfInBounds_toArray]
abbrev storeC (gb gs gf n m : Nat) : Array Value := #[.slice (some ⟨gb, 0, none⟩) (64 * n) (64 * n), .slice (some ⟨gs, 0, none⟩) n n, .slice (some ⟨gf, 0, none⟩) m n]
/-- how a place's size is kept. -/
def sizeZ (k : Option ByteArray) : Int := match k with | none => 0 | some s => (s.size : Int) + 1
structure KeysAt (w : World) (b gb gs gf n : Nat) (fl : List Nat) (K : Nat → Option ByteArray) (bs ss fs : List Int) : Prop where
  hb : Blk w b 213 (storeC gb gs gf n fl.length)
  hgb : Blk w gb 5 (numC .u8 bs)
  hgs : Blk w gs 5 (numC .u8 ss)
  hgf : Blk w gf 74 (numC .u32 fs)
  lb : bs.length = 64 * n
  ls : ss.length = n
  lf : fs.length = n
  vs : ∀ i, i < n → ss.getD i 0 = sizeZ (K i)
  vf : ∀ j, j < fl.length → fs.getD j 0 = ((fl.getD j 0 : Nat) : Int)
  vb : ∀ i s, K i = some s → s.size ≤ 64 ∧ ∀ j, j < s.size → bs.getD (64 * i + j) 0 = (nums s).getD j 0
  pl : Places n fl K
  n1 : n ≤ 65536
  ne : b ≠ gb ∧ b ≠ gs ∧ b ≠ gf ∧ gb ≠ gs ∧ gb ≠ gf ∧ gs ≠ gf
def KeysIn (w : World) (b gb gs gf n : Nat) (fl : List Nat) (K : Nat → Option ByteArray) : Prop := ∃ bs ss fs, KeysAt w b gb gs gf n fl K bs ss fs
theorem KeysIn.keep {W w : World} {b gb gs gf n : Nat} {fl : List Nat} {K : Nat → Option ByteArray} (h : KeysIn W b gb gs gf n fl K) (hb : Below W.heap.size W w) : KeysIn w b gb gs gf n fl K := by
  obtain ⟨bs, ss, fs, h⟩ := h
  exact ⟨bs, ss, fs, h.hb.keep hb, h.hgb.keep hb, h.hgs.keep hb, h.hgf.keep hb, h.lb, h.ls, h.lf, h.vs, h.vf, h.vb, h.pl, h.n1, h.ne⟩
theorem KeysIn.lt {w : World} {b gb gs gf n : Nat} {fl : List Nat} {K : Nat → Option ByteArray} (h : KeysIn w b gb gs gf n fl K) : b < w.heap.size ∧ gb < w.heap.size ∧ gs < w.heap.size ∧ gf < w.heap.size := by
  obtain ⟨bs, ss, fs, h⟩ := h
  exact ⟨lt_of_block h.hb, lt_of_block h.hgb, lt_of_block h.hgs, lt_of_block h.hgf⟩
theorem KeysIn.pl {w : World} {b gb gs gf n : Nat} {fl : List Nat} {K : Nat → Option ByteArray} (h : KeysIn w b gb gs gf n fl K) : Places n fl K ∧ n ≤ 65536 ∧ ∀ i s, K i = some s → s.size ≤ 64 := by
  obtain ⟨bs, ss, fs, h⟩ := h
  exact ⟨h.pl, h.n1, fun i s hs => (h.vb i s hs).1⟩
abbrev kyF (b gb gs gf : Nat) : Nat → Prop := fun k => k = b ∨ k = gb ∨ k = gs ∨ k = gf
/-! #### none -/
section
variable {b gb gs gf n : Nat} {fl : List Nat} {K : Nat → Option ByteArray}
set_option maxHeartbeats 400000 in
theorem len_any (w : World) (h : KeysIn w b gb gs gf n fl K) : Calls Tryz.prog 85 #[.pointer (some ⟨b, 0, none⟩)] w fun e w' => e = .returned (.int .i64 (n : Int)) ∧ w = w' := by
  obtain ⟨bs, ss, fs, h⟩ := h
  have k := h.hb.rd
  clear h
  go_enter Tryz.func85, Tryz.ntmps85
  go_wp2
  go_ret
  exact ⟨rfl, rfl⟩
end
end Go.Proofs.YtannniobeanhlaaGreat
/- The contracts of layer 4 (keys): what reads. -/
namespace Go.Proofs.YtannniobeanhlaaGreat
set_option linter.unusedSimpArgs false
set_option linter.unusedVariables false
set_option maxRecDepth 100000
open Go.ChangeShapes Go.WideShapes Go.ChangeAt Go.RowKit
section
variable {b gb gs gf n : Nat} {fl : List Nat} {K : Nat → Option ByteArray}
end
end Go.Proofs.YtannniobeanhlaaGreat
/- The contracts of layer 4 (keys): Put, Free. -/
namespace Go.Proofs.YtannniobeanhlaaGreat
set_option linter.unusedSimpArgs false
set_option linter.unusedVariables false
set_option maxRecDepth 100000
open Go.ChangeShapes Go.WideShapes Go.ChangeAt Go.RowKit
section
variable {b gb gs gf n : Nat} {fl : List Nat} {K : Nat → Option ByteArray}
end
end Go.Proofs.YtannniobeanhlaaGreat
/- The contracts of layer 4 (keys): New. -/
namespace Go.Proofs.YtannniobeanhlaaGreat
set_option linter.unusedSimpArgs false
set_option linter.unusedVariables false
set_option maxRecDepth 100000
open Go.ChangeShapes Go.WideShapes Go.ChangeAt Go.RowKit
theorem make_num {P : Program} {t e : TypeId} {i : TypeInfo} {k : IntKind} {B : Nat} (ht : P.underlying t = some (.slice e)) (hi : P.info? e = some i) (hz : i.zero = some (.int k 0)) (hs : i.size = 1) (hb : i.bytes = B) (n : Nat) (hn : B * n ≤ 281474976710656) (hn2 : n ≤ 281474976710656) (w : World) :
    (Instr.makeSlice t (.int .i64 (n : Int)) (.int .i64 (n : Int))).run P w = .ok (.slice (some ⟨w.heap.size, 0, none⟩) n n) (w.alloc (.cells (numC k (List.replicate n 0)) e)) := by
  have := run_makeSlice w t e i (.int k 0) ht hi hz .i64 .i64 (n : Int) (n : Int) (by omega) (by omega)
  have h2 := run_make w t e i (.int k 0) ht hi hz .i64 .i64 (n : Int) (n : Int) (by omega) (by omega) (by rw [hb]; omega) (by omega)
  rw [h2, hs]
  simp only [Int.toNat_natCast, Nat.mul_one]
  have e1 : madeCells (Value.int k 0).cells n = numC k (List.replicate n 0) := by
    have := toList_madeCells_one (.int k 0) n
    show madeCells #[Value.int k 0] n = _
    apply Array.ext'
    rw [this]; simp
  rw [e1]
theorem four_allocs (w : World) (A B C D : Array Value) (tA tB tC tD : TypeId) : ∃ w4, (((w.alloc (.cells A tA)).alloc (.cells B tB)).alloc (.cells C tC)).alloc (.cells D tD) = w4 ∧ Blk w4 w.heap.size tA A ∧ Blk w4 (w.heap.size + 1) tB B ∧ Blk w4 (w.heap.size + 1 + 1) tC C ∧ Blk w4 (w.heap.size + 1 + 1 + 1) tD D ∧ Below w.heap.size w w4 := by
  obtain ⟨w1, e1, n1, b1, s1⟩ := box_new w A tA
  obtain ⟨w2, e2, n2, b2, s2⟩ := box_new w1 B tB
  obtain ⟨w3, e3, n3, b3, s3⟩ := box_new w2 C tC
  obtain ⟨w4, e4, n4, b4, s4⟩ := box_new w3 D tD
  have h12 := b2.mono (Nat.le_refl _)
  refine ⟨w4, by rw [e1, e2, e3, e4], ((n1.keep b2).keep b3).keep b4, ?_, ?_, ?_, ?_⟩
  · rw [s1] at n2; exact (n2.keep b3).keep b4
  · rw [s2, s1] at n3; exact n3.keep b4
  · rw [s3, s2, s1] at n4; exact n4
  · exact ((b1.trans (b2.mono (by omega))).trans (b3.mono (by omega))).trans (b4.mono (by omega))
theorem info5 : (Tryz.prog.info? 5).map (fun i => (i.zero, i.size, i.bytes)) = some (some (.int .u8 0), 1, 1) := by kernel_rfl
theorem info45z : (Tryz.prog.info? 74).map (fun i => (i.zero, i.size, i.bytes)) = some (some (.int .u32 0), 1, 4) := by kernel_rfl
/-- what New has filled in. -/
def fillF (n i : Nat) : List Int := (List.range n).map fun j => if j < i then (n : Int) - 1 - j else 0
theorem fillF_length (n i : Nat) : (fillF n i).length = n := by simp [fillF]
theorem fillF_getD (n i j : Nat) (h : j < n) : (fillF n i).getD j 0 = if j < i then (n : Int) - 1 - j else 0 := by
  simp [fillF, List.getD, h]
theorem fillF_zero (n : Nat) : fillF n 0 = List.replicate n 0 := by
  apply List.ext_getElem (by simp [fillF])
  intro j h1 h2
  simp [fillF]
theorem fillF_set (n i : Nat) (h : i < n) : (fillF n i).set i ((n : Int) - 1 - i) = fillF n (i + 1) := by
  apply List.ext_getElem (by simp [fillF])
  intro j h1 h2
  rw [List.getElem_set]
  simp only [fillF, List.getElem_map, List.getElem_range]
  by_cases hj : i = j
  · subst hj; rw [if_pos rfl, if_pos (by omega)]
  · rw [if_neg hj]
    by_cases h3 : j < i
    · rw [if_pos h3, if_pos (by omega)]
    · rw [if_neg h3, if_neg (by omega)]
set_option maxHeartbeats 2000000 in
theorem new_yes (n : Nat) (hn : n ≤ 65536) (w : World) : Calls Tryz.prog 118 #[.int .i64 (n : Int)] w fun e w' =>
    ∃ b gb gs gf, e = .returned (.pointer (some ⟨b, 0, none⟩)) ∧ KeysIn w' b gb gs gf n (List.range n).reverse (fun _ => none) ∧ Below w.heap.size w w' ∧ (w.heap.size ≤ b ∧ w.heap.size ≤ gb ∧ w.heap.size ≤ gs ∧ w.heap.size ≤ gf) := by
  have t1 : decide ((n : Int) < 0) = false := by rw [decide_eq_false_iff_not]; omega
  have t2 : decide ((65536 : Int) < (n : Int)) = false := by rw [decide_eq_false_iff_not]; omega
  have t3 : (n : Int) ≤ 65536 := by omega
  obtain ⟨cn, hcn⟩ : ∃ cn, cn = 64 * n := ⟨_, rfl⟩
  have e1 : IntKind.i64.wrap (64 * (n : Int)) = (cn : Int) := by rw [IntKind.wrap_i64]; omega
  have e2 : (64 : Int) * (n : Int) = (cn : Int) := by omega
  have e3 : IntKind.i64.wrap (cn : Int) = (cn : Int) := by rw [IntKind.wrap_i64]; omega
  obtain ⟨i0, hi, hz0, hz1, hz2⟩ := info_parts info5
  have hmk := make_num (P := Tryz.prog) (t := 40) (e := 5) Tryz.underlying40 hi hz0 hz1 hz2 n (by omega) (by omega)
  have hmk2 := make_num (P := Tryz.prog) (t := 40) (e := 5) Tryz.underlying40 hi hz0 hz1 hz2 cn (by omega) (by omega)
  clear hi hz0 hz1 hz2
  obtain ⟨i1, hi, hz0, hz1, hz2⟩ := info_parts info45z
  have hmk3 := make_num (P := Tryz.prog) (t := 211) (e := 74) Tryz.underlying211 hi hz0 hz1 hz2 n (by omega) (by omega)
  clear hi hz0 hz1 hz2
  have HX := Lib.hid (And.intro hcn hn)
  clear hcn hn
  go_enter Tryz.func118, Tryz.ntmps118
  go_upto_region 3 with (fail)
  go_region_held3 (fun _ => True) (trivial) (fail)
  all_goals
    (first
      | (obtain ⟨wy, e4, m1, m2, m3, m4, bw⟩ := four_allocs w (numC .u8 (List.replicate cn 0)) (numC .u8 (List.replicate n 0)) (numC .u32 (List.replicate n 0)) #[.slice (some ⟨w.heap.size, 0, none⟩) cn cn, .slice (some ⟨w.heap.size + 1, 0, none⟩) n n, .slice (some ⟨w.heap.size + 1 + 1, 0, none⟩) n n] 5 5 74 213; rw [e4]; have BW := Lib.hid bw; clear e4 bw; obtain ⟨b, hb⟩ : ∃ x, x = w.heap.size + 1 + 1 + 1 := ⟨_, rfl⟩; obtain ⟨gf, h2⟩ : ∃ x, x = w.heap.size + 1 + 1 := ⟨_, rfl⟩; obtain ⟨gs, h1⟩ : ∃ x, x = w.heap.size + 1 := ⟨_, rfl⟩; obtain ⟨gb, h0⟩ : ∃ x, x = w.heap.size := ⟨_, rfl⟩; have HN := Lib.hid (show (b ≠ gb ∧ b ≠ gs ∧ b ≠ gf ∧ gb ≠ gs ∧ gb ≠ gf ∧ gs ≠ gf) ∧ (w.heap.size ≤ b ∧ w.heap.size ≤ gb ∧ w.heap.size ≤ gs ∧ w.heap.size ≤ gf) by omega); rw [← hb] at m4 ⊢; rw [← h2] at m3 m4 ⊢; rw [← h1] at m2 m4 ⊢; rw [← h0] at m1 m4 ⊢; have HZ := Lib.hid h0; have Q := Lib.hid (And.intro m1 (And.intro m2 (And.intro m3 m4))); clear m1 m2 m3 m4 hb h2 h1 h0)
      | (obtain ⟨wy, e4, m1, m2, m3, m4, bw⟩ := four_allocs w (numC .u8 (List.replicate cn 0)) (numC .u32 (List.replicate n 0)) (numC .u8 (List.replicate n 0)) #[.slice (some ⟨w.heap.size, 0, none⟩) cn cn, .slice (some ⟨w.heap.size + 1 + 1, 0, none⟩) n n, .slice (some ⟨w.heap.size + 1, 0, none⟩) n n] 5 74 5 213; rw [e4]; have BW := Lib.hid bw; clear e4 bw; obtain ⟨b, hb⟩ : ∃ x, x = w.heap.size + 1 + 1 + 1 := ⟨_, rfl⟩; obtain ⟨gs, h2⟩ : ∃ x, x = w.heap.size + 1 + 1 := ⟨_, rfl⟩; obtain ⟨gf, h1⟩ : ∃ x, x = w.heap.size + 1 := ⟨_, rfl⟩; obtain ⟨gb, h0⟩ : ∃ x, x = w.heap.size := ⟨_, rfl⟩; have HN := Lib.hid (show (b ≠ gb ∧ b ≠ gs ∧ b ≠ gf ∧ gb ≠ gs ∧ gb ≠ gf ∧ gs ≠ gf) ∧ (w.heap.size ≤ b ∧ w.heap.size ≤ gb ∧ w.heap.size ≤ gs ∧ w.heap.size ≤ gf) by omega); rw [← hb] at m4 ⊢; rw [← h2] at m3 m4 ⊢; rw [← h1] at m2 m4 ⊢; rw [← h0] at m1 m4 ⊢; have HZ := Lib.hid h0; have Q := Lib.hid (And.intro m1 (And.intro m3 (And.intro m2 m4))); clear m1 m2 m3 m4 hb h2 h1 h0)
      | (obtain ⟨wy, e4, m1, m2, m3, m4, bw⟩ := four_allocs w (numC .u8 (List.replicate n 0)) (numC .u8 (List.replicate cn 0)) (numC .u32 (List.replicate n 0)) #[.slice (some ⟨w.heap.size + 1, 0, none⟩) cn cn, .slice (some ⟨w.heap.size, 0, none⟩) n n, .slice (some ⟨w.heap.size + 1 + 1, 0, none⟩) n n] 5 5 74 213; rw [e4]; have BW := Lib.hid bw; clear e4 bw; obtain ⟨b, hb⟩ : ∃ x, x = w.heap.size + 1 + 1 + 1 := ⟨_, rfl⟩; obtain ⟨gf, h2⟩ : ∃ x, x = w.heap.size + 1 + 1 := ⟨_, rfl⟩; obtain ⟨gb, h1⟩ : ∃ x, x = w.heap.size + 1 := ⟨_, rfl⟩; obtain ⟨gs, h0⟩ : ∃ x, x = w.heap.size := ⟨_, rfl⟩; have HN := Lib.hid (show (b ≠ gb ∧ b ≠ gs ∧ b ≠ gf ∧ gb ≠ gs ∧ gb ≠ gf ∧ gs ≠ gf) ∧ (w.heap.size ≤ b ∧ w.heap.size ≤ gb ∧ w.heap.size ≤ gs ∧ w.heap.size ≤ gf) by omega); rw [← hb] at m4 ⊢; rw [← h2] at m3 m4 ⊢; rw [← h1] at m2 m4 ⊢; rw [← h0] at m1 m4 ⊢; have HZ := Lib.hid h0; have Q := Lib.hid (And.intro m2 (And.intro m1 (And.intro m3 m4))); clear m1 m2 m3 m4 hb h2 h1 h0)
      | (obtain ⟨wy, e4, m1, m2, m3, m4, bw⟩ := four_allocs w (numC .u8 (List.replicate n 0)) (numC .u32 (List.replicate n 0)) (numC .u8 (List.replicate cn 0)) #[.slice (some ⟨w.heap.size + 1 + 1, 0, none⟩) cn cn, .slice (some ⟨w.heap.size, 0, none⟩) n n, .slice (some ⟨w.heap.size + 1, 0, none⟩) n n] 5 74 5 213; rw [e4]; have BW := Lib.hid bw; clear e4 bw; obtain ⟨b, hb⟩ : ∃ x, x = w.heap.size + 1 + 1 + 1 := ⟨_, rfl⟩; obtain ⟨gb, h2⟩ : ∃ x, x = w.heap.size + 1 + 1 := ⟨_, rfl⟩; obtain ⟨gf, h1⟩ : ∃ x, x = w.heap.size + 1 := ⟨_, rfl⟩; obtain ⟨gs, h0⟩ : ∃ x, x = w.heap.size := ⟨_, rfl⟩; have HN := Lib.hid (show (b ≠ gb ∧ b ≠ gs ∧ b ≠ gf ∧ gb ≠ gs ∧ gb ≠ gf ∧ gs ≠ gf) ∧ (w.heap.size ≤ b ∧ w.heap.size ≤ gb ∧ w.heap.size ≤ gs ∧ w.heap.size ≤ gf) by omega); rw [← hb] at m4 ⊢; rw [← h2] at m3 m4 ⊢; rw [← h1] at m2 m4 ⊢; rw [← h0] at m1 m4 ⊢; have HZ := Lib.hid h0; have Q := Lib.hid (And.intro m3 (And.intro m1 (And.intro m2 m4))); clear m1 m2 m3 m4 hb h2 h1 h0)
      | (obtain ⟨wy, e4, m1, m2, m3, m4, bw⟩ := four_allocs w (numC .u32 (List.replicate n 0)) (numC .u8 (List.replicate cn 0)) (numC .u8 (List.replicate n 0)) #[.slice (some ⟨w.heap.size + 1, 0, none⟩) cn cn, .slice (some ⟨w.heap.size + 1 + 1, 0, none⟩) n n, .slice (some ⟨w.heap.size, 0, none⟩) n n] 74 5 5 213; rw [e4]; have BW := Lib.hid bw; clear e4 bw; obtain ⟨b, hb⟩ : ∃ x, x = w.heap.size + 1 + 1 + 1 := ⟨_, rfl⟩; obtain ⟨gs, h2⟩ : ∃ x, x = w.heap.size + 1 + 1 := ⟨_, rfl⟩; obtain ⟨gb, h1⟩ : ∃ x, x = w.heap.size + 1 := ⟨_, rfl⟩; obtain ⟨gf, h0⟩ : ∃ x, x = w.heap.size := ⟨_, rfl⟩; have HN := Lib.hid (show (b ≠ gb ∧ b ≠ gs ∧ b ≠ gf ∧ gb ≠ gs ∧ gb ≠ gf ∧ gs ≠ gf) ∧ (w.heap.size ≤ b ∧ w.heap.size ≤ gb ∧ w.heap.size ≤ gs ∧ w.heap.size ≤ gf) by omega); rw [← hb] at m4 ⊢; rw [← h2] at m3 m4 ⊢; rw [← h1] at m2 m4 ⊢; rw [← h0] at m1 m4 ⊢; have HZ := Lib.hid h0; have Q := Lib.hid (And.intro m2 (And.intro m3 (And.intro m1 m4))); clear m1 m2 m3 m4 hb h2 h1 h0)
      | (obtain ⟨wy, e4, m1, m2, m3, m4, bw⟩ := four_allocs w (numC .u32 (List.replicate n 0)) (numC .u8 (List.replicate n 0)) (numC .u8 (List.replicate cn 0)) #[.slice (some ⟨w.heap.size + 1 + 1, 0, none⟩) cn cn, .slice (some ⟨w.heap.size + 1, 0, none⟩) n n, .slice (some ⟨w.heap.size, 0, none⟩) n n] 74 5 5 213; rw [e4]; have BW := Lib.hid bw; clear e4 bw; obtain ⟨b, hb⟩ : ∃ x, x = w.heap.size + 1 + 1 + 1 := ⟨_, rfl⟩; obtain ⟨gb, h2⟩ : ∃ x, x = w.heap.size + 1 + 1 := ⟨_, rfl⟩; obtain ⟨gs, h1⟩ : ∃ x, x = w.heap.size + 1 := ⟨_, rfl⟩; obtain ⟨gf, h0⟩ : ∃ x, x = w.heap.size := ⟨_, rfl⟩; have HN := Lib.hid (show (b ≠ gb ∧ b ≠ gs ∧ b ≠ gf ∧ gb ≠ gs ∧ gb ≠ gf ∧ gs ≠ gf) ∧ (w.heap.size ≤ b ∧ w.heap.size ≤ gb ∧ w.heap.size ≤ gs ∧ w.heap.size ≤ gf) by omega); rw [← hb] at m4 ⊢; rw [← h2] at m3 m4 ⊢; rw [← h1] at m2 m4 ⊢; rw [← h0] at m1 m4 ⊢; have HZ := Lib.hid h0; have Q := Lib.hid (And.intro m3 (And.intro m2 (And.intro m1 m4))); clear m1 m2 m3 m4 hb h2 h1 h0))
    have qd : Blk wy.drew b 213 _ := Q.out.2.2.2
    have qf : Blk wy.drew gf 74 _ := Q.out.2.2.1
    generalize hwd : wy.drew = wd at qd qf ⊢
    have HWD := Lib.hid hwd
    have QD := Lib.hid (And.intro qd qf)
    clear hwd qd qf
    go_wp2
    go_loopg [21] n (fun k si wr => ∃ i : Nat, i ≤ n ∧ k = n - i ∧ si = .int .i64 (i : Int) ∧ Blk wr gf 74 (numC .u32 (fillF n i)) ∧ Fr (fun k => k = gf) wd wr)
    case atStart => exact ⟨0, by omega, by omega, rfl, by rw [fillF_zero]; exact QD.out.2, Fr.refl _ _⟩
    case round =>
      obtain ⟨i, hi, hkk, rfl, hbl, hfr⟩ := hrel
      have HK := Lib.hid hkk
      have HF := Lib.hid hfr
      have HBL := Lib.hid hbl
      have qb := QD.out.1.fr hfr HN.out.1.2.2.1
      have QB := Lib.hid qb
      clear hkk hfr
      by_cases hin : i < n
      · have k := qb.rd
        have kc : wr.cell? ⟨gf, i, none⟩ = some (.int .u32 ((fillF n i).getD i 0)) := by rw [blk_cell hbl]; exact numC_get _ _ _ (by rw [fillF_length]; exact hin)
        have k0 := hbl.wr
        obtain ⟨v, hv⟩ : ∃ v : Int, v = (n : Int) - 1 - i := ⟨_, rfl⟩
        have ev : (n : Int) - 1 - (i : Int) = v := hv.symm
        have ew : IntKind.u32.wrap v = v := by rw [IntKind.wrap_u32]; omega
        have t4 : (i : Int) < (n : Int) := by omega
        have HV := Lib.hid hv
        clear qb hbl hv
        go_wp2
        go_roundg (n - (i + 1))
        case measure => have := HK.out; omega
        case rel =>
          have hl := lt_of_block HBL.out
          rw [setCell_obj HBL.out, numC_set, HV.out, fillF_set _ _ hin]
          exact ⟨i + 1, by omega, by omega, by go_num, setObj_at hl _, HF.out.trans (Fr.setObj (F := fun k => k = gf) (Fr.refl _ _) rfl _)⟩
      · have hie : i = n := by omega
        clear qb
        go_wp2
        go_ret
        have hn := HN.out
        have hx := HX.out
        have hq := Q.out
        have hz := HZ.out
        have qb0 : Blk wd gb 5 (numC .u8 (List.replicate cn 0)) := by rw [← HWD.out]; exact hq.1
        have qs0 : Blk wd gs 5 (numC .u8 (List.replicate n 0)) := by rw [← HWD.out]; exact hq.2.1
        have hbw : Below w.heap.size w wr := by
          have h1 : Below w.heap.size w wd := by rw [← HWD.out]; exact below_draws BW.out 1
          exact h1.trans (HF.out.below h1.size (fun k hk => by omega))
        rw [hie] at hbl
        rw [hx.1] at hq
        refine ⟨b, gb, gs, gf, rfl, ⟨List.replicate cn 0, List.replicate n 0, fillF n n, ?_⟩, by first | exact hbw | (rw [hz]; exact hbw), by omega⟩
        refine ⟨?_, qb0.fr HF.out hn.1.2.2.2.2.1, qs0.fr HF.out hn.1.2.2.2.2.2, hbl, by rw [List.length_replicate]; exact hx.1, List.length_replicate, fillF_length _ _, ?_, ?_, (fun j t ht => by cases ht), places_new n, hx.2, hn.1⟩
        · have := QB.out
          rw [hx.1] at this
          rw [List.length_reverse, List.length_range]
          exact this
        · intro j hj
          show _ = sizeZ none
          simp [List.getD, hj, sizeZ]
        · intro j hj
          rw [List.length_reverse, List.length_range] at hj
          rw [fillF_getD _ _ _ hj, if_pos hj]
          simp only [List.getD]
          rw [List.getElem?_reverse (by simpa using hj)]
          simp
          rw [List.getElem?_range (by omega)]
          simp; omega
end Go.Proofs.YtannniobeanhlaaGreat
