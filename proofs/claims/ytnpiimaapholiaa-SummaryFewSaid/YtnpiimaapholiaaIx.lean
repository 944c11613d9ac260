/- The contracts of layer 5 (index): what reads. -/
import Derived.Test.YtnpiimaapholiaaKyN
import Derived.Test.YtnpiimaapholiaaHashR
import Derived.Test.YtnpiimaapholiaaIxMath
namespace Go.Proofs.Ytnpiimaapholiaa
set_option linter.unusedSimpArgs false
set_option linter.unusedVariables false
open Go.ChangeShapes Go.WideShapes Go.ChangeAt Go.RowKit
/-- whole numbers from 0 on as cells. -/
abbrev natC (k : IntKind) (l : List Nat) : Array Value := (l.map fun x : Nat => Value.int k (x : Int)).toArray
theorem natC_get (k : IntKind) (l : List Nat) (i : Nat) (h : i < l.length) : (natC k l)[i]? = some (.int k ((l.getD i 0 : Nat) : Int)) := by
  unfold natC
  rw [List.getElem?_toArray, List.getElem?_map, List.getElem?_eq_getElem h]
  simp [List.getD, h]
theorem natC_set (k : IntKind) (l : List Nat) (i v : Nat) : (natC k l).setIfInBounds i (.int k (v : Int)) = natC k (l.set i v) := by
  unfold natC; simp only [List.map_set, List.setIfInBounds_toArray]
theorem getD_setN (l : List Nat) (i v : Nat) (hi : i < l.length) : (fun j => (l.set i v).getD j 0) = Ix.upN (fun j => l.getD j 0) i v := by
  funext j
  simp only [Ix.upN, List.getD, List.getElem?_set]
  by_cases h : i = j
  · subst h; simp [hi]
  · rw [if_neg h, if_neg (fun e => h e.symm)]
/-- what a callee that makes memory keeps: cells of a block, and all that is below. -/
theorem Calls.hold {S : World → Prop} {f : Nat} {args : Array Value} {v : Value} {w : World} (hS : ∀ b, Below w.heap.size w b → S b)
    (c : Calls Try.prog f args w fun e w' => e = .returned v ∧ Below w.heap.size w w') : Calls Try.prog f args w fun e w' => e = .returned v ∧ S w' :=
  c.mono (fun _ _ hh => ⟨hh.1, hS _ hh.2⟩)
theorem below_in {W0 w w' : World} (h : Below W0.heap.size W0 w) (b : Below w.heap.size w w') : Below W0.heap.size W0 w' := h.trans (b.mono h.size)
abbrev ixC (b X A B g m : Nat) : Array Value := #[.pointer (some ⟨b, 0, none⟩), .int .u64 (X : Int), .int .u64 (A : Int), .int .u64 (B : Int), .slice (some ⟨g, 0, none⟩) m m]
/-- an index in memory. -/
structure IxMem (w : World) (x b X A B g gb gs gf n m : Nat) (fl : List Nat) (K : Nat → Option ByteArray) (L : List Nat) : Prop where
  hx : Blk w x 85 (ixC b X A B g m)
  hg : Blk w g 82 (natC .u32 L)
  len : L.length = m
  sz : m = 2 * n + 1
  ks : KeysIn w b gb gs gf n fl K
  lX : X < 2305843009213693951
  lA : A < 2305843009213693951
  lB : B < 2305843009213693951
  ne : x ≠ g ∧ x ≠ b ∧ x ≠ gb ∧ x ≠ gs ∧ x ≠ gf ∧ g ≠ b ∧ g ≠ gb ∧ g ≠ gs ∧ g ≠ gf
/-- where the search for a key begins. -/
def ixH (X A B m : Nat) (s : ByteArray) : Nat := plc (Ha.hof X A B s.data.toList) (m : Int)
theorem ixH_lt (X A B : Nat) {m : Nat} (hm : 1 ≤ m) (s : ByteArray) : ixH X A B m s < m := by
  have := plc_lt (Ha.hof X A B s.data.toList) (n := (m : Int)) (by omega)
  rw [Int.toNat_natCast] at this
  exact this
theorem IxMem.keep {W w : World} {x b X A B g gb gs gf n m : Nat} {fl : List Nat} {K : Nat → Option ByteArray} {L : List Nat} (h : IxMem W x b X A B g gb gs gf n m fl K L) (hb : Below W.heap.size W w) : IxMem w x b X A B g gb gs gf n m fl K L :=
  ⟨h.hx.keep hb, h.hg.keep hb, h.len, h.sz, h.ks.keep hb, h.lX, h.lA, h.lB, h.ne⟩
theorem ixB_any (X A B : Nat) (hX : X < 2305843009213693951) (hA : A < 2305843009213693951) (hB : B < 2305843009213693951) (s : ByteArray) (hs : s.size ≤ maxLen) (m : Nat) (hm : m ≤ 131073) (w : World) :
    Calls Try.prog 49 #[.agg #[.int .u64 X, .int .u64 A, .int .u64 B], .string s, .int .i64 (m : Int)] w fun e w' => e = .returned (.int .i64 (ixH X A B m s : Nat)) ∧ Below w.heap.size w w' :=
  bucket_any X A B hX hA hB s hs (m : Int) (by omega) w
section
variable {x b X A B g gb gs gf n m : Nat} {fl : List Nat} {K : Nat → Option ByteArray} {L : List Nat}
set_option maxHeartbeats 400000 in
theorem ixafter_any (p : Nat) (w : World) (h : IxMem w x b X A B g gb gs gf n m fl K L) (hp : p < m) : Calls Try.prog 51 #[.pointer (some ⟨x, 0, none⟩), .int .i64 (p : Int)] w fun e w' => e = .returned (.int .i64 (Ix.nxt m p : Nat)) ∧ w = w' := by
  have k := h.hx.rd
  have hn := h.ks.pl.2.1
  have hm := h.sz
  have t1 : (p : Int) ≤ 131073 := by omega
  obtain ⟨r, hr⟩ : ∃ r, r = Ix.nxt m p := ⟨_, rfl⟩
  have hor := Ix.nxt_or m p
  rw [← hr] at hor ⊢
  clear h hn hm hr
  rcases hor with ⟨h1, h2⟩ | ⟨h1, h2⟩
  · subst h2
    have t2 : ((p : Int) + 1 == (m : Int)) = true := beq_iff_eq.2 (by omega)
    have t3 : (p : Int) + 1 = (m : Int) := by omega
    clear h1 hp t3
    go_enter Try.func51, Try.ntmps51
    go_wp2
    go_ret
    exact ⟨rfl, rfl⟩
  · subst h2
    have t2 : ((p : Int) + 1 == (m : Int)) = false := beq_eq_false_iff_ne.2 (by omega)
    clear h1 hp
    go_enter Try.func51, Try.ntmps51
    go_wp2
    go_ret
    exact ⟨ret_i (by omega), rfl⟩
set_option maxHeartbeats 400000 in
theorem ixdist_any (p q : Nat) (w : World) (h : IxMem w x b X A B g gb gs gf n m fl K L) (hp : p < m) (hq : q < m) : Calls Try.prog 52 #[.pointer (some ⟨x, 0, none⟩), .int .i64 (p : Int), .int .i64 (q : Int)] w fun e w' => e = .returned (.int .i64 (Ix.dst m p q : Nat)) ∧ w = w' := by
  have k := h.hx.rd
  have hn := h.ks.pl.2.1
  have hm := h.sz
  have t1 : (p : Int) ≤ 131073 := by omega
  have t2 : (q : Int) ≤ 131073 := by omega
  have t3 : (m : Int) ≤ 131073 := by omega
  obtain ⟨r, hr⟩ : ∃ r, r = Ix.dst m p q := ⟨_, rfl⟩
  have hor := Ix.dst_or m p q
  rw [← hr] at hor ⊢
  clear h hn hm hr
  rcases hor with ⟨h1, h2⟩ | ⟨h1, h2⟩
  · have t4 : decide (q < p) = true := by simpa using h1
    have HR := Lib.hid (show (q : Int) + (m : Int) - (p : Int) = (r : Int) by omega)
    clear h2
    go_enter Try.func52, Try.ntmps52
    go_wp2
    go_ret
    exact ⟨ret_i HR.out, rfl⟩
  · have t4 : decide (q < p) = false := by rw [decide_eq_false_iff_not]; omega
    have HR := Lib.hid (show (q : Int) - (p : Int) = (r : Int) by omega)
    clear h2
    go_enter Try.func52, Try.ntmps52
    go_wp2
    go_ret
    exact ⟨ret_i HR.out, rfl⟩
set_option maxHeartbeats 2000000 in
theorem ixhome_any (p i : Nat) (s : ByteArray) (w : World) (h : IxMem w x b X A B g gb gs gf n m fl K L) (hp : p < m) (hT : L.getD p 0 = i + 1) (hk : K i = some s) : Calls Try.prog 53 #[.pointer (some ⟨x, 0, none⟩), .int .i64 (p : Int)] w fun e w' => e = .returned (.int .i64 (ixH X A B m s : Nat)) ∧ Below w.heap.size w w' := by
  have k := h.hx.rd
  have hn := h.ks.pl.2.1
  have hm := h.sz
  have hi := (h.ks.pl.1.lt (i := i) (by rw [hk]; rfl)).1
  have hs := h.ks.pl.2.2 i s hk
  obtain ⟨v, hv⟩ : ∃ v, v = i + 1 := ⟨_, rfl⟩
  have k2 : w.cell? ⟨g, p, none⟩ = some (.int .u32 (v : Int)) := by rw [blk_cell h.hg, natC_get _ _ _ (by rw [h.len]; exact hp), hT, hv]
  have CK := Lib.hid (fun wx (hx : Below w.heap.size w wx) => key_yes i s wx (h.ks.keep hx) hi hk)
  have CB := Lib.hid (fun wx => ixB_any X A B h.lX h.lA h.lB s (by unfold maxLen; omega) m (by omega) wx)
  have HH := Lib.hid h
  have t1 : (p : Int) < (m : Int) := by omega
  have t2 : (m : Int) ≤ 131073 := by omega
  have t3 : (i : Int) ≤ 65536 := by omega
  have e1 : IntKind.i64.wrap (v : Int) = (v : Int) := by rw [IntKind.wrap_i64]; omega
  have e3 : IntKind.i64.wrap ((v : Int) - 1) = (i : Int) := by rw [IntKind.wrap_i64]; omega
  clear h hn hm hi hs hT hk hp hv
  go_enter Try.func53, Try.ntmps53
  go_upto_region 1 with (fail)
  have y1 : ∀ j, w.drew.cell? ⟨x, j, none⟩ = (ixC b X A B g m)[j]? := (Blk.drew HH.out.hx).rd
  have y2 : w.drew.cell? ⟨g, p, none⟩ = some (.int .u32 (v : Int)) := k2
  have y3 : Below w.heap.size w w.drew := below_draws (Below.refl _ _) 1
  have GK := Lib.hid (fun (wx : World) (hx : Below w.heap.size w wx) => Calls.hold (S := fun w' => (∀ j, w'.cell? ⟨x, j, none⟩ = (ixC b X A B g m)[j]?) ∧ w'.cell? ⟨g, p, none⟩ = some (.int .u32 (v : Int)) ∧ Below w.heap.size w w') (fun wb hb => ⟨(HH.out.hx.keep (below_in hx hb)).rd, ((below_in hx hb).cell (lt_of_cell k2)).trans k2, below_in hx hb⟩) (CK.out wx hx))
  go_region_held3 (fun w' => (∀ j, w'.cell? ⟨x, j, none⟩ = (ixC b X A B g m)[j]?) ∧ w'.cell? ⟨g, p, none⟩ = some (.int .u32 (v : Int)) ∧ Below w.heap.size w w') (first | (refine ⟨?_, ?_, ?_⟩ <;> assumption) | go_keep)
    ((go_at_call 31; ((with_reducible refine (GK.out _ (by assumption)).mono ?_); rintro e w1 ⟨rfl, z0, z1, z2⟩)))
  clear GK y1 y2 y3
  go_upto_region 2 with (fail)
  have Z2 := Lib.hid z2
  have y1 : ∀ j, w1.drew.cell? ⟨x, j, none⟩ = (ixC b X A B g m)[j]? := z0
  have y3 : Below w.heap.size w w1.drew := below_draws z2 1
  clear z0 z1 z2
  have GB := Lib.hid (fun (wx : World) (hx : Below w.heap.size w wx) => Calls.hold (S := fun w' => (∀ j, w'.cell? ⟨x, j, none⟩ = (ixC b X A B g m)[j]?) ∧ Below w.heap.size w w') (fun wb hb => ⟨(HH.out.hx.keep (below_in hx hb)).rd, below_in hx hb⟩) (CB.out wx))
  go_region_held3 (fun w' => (∀ j, w'.cell? ⟨x, j, none⟩ = (ixC b X A B g m)[j]?) ∧ Below w.heap.size w w') (first | (refine ⟨?_, ?_⟩ <;> assumption) | go_keep)
    ((go_at_call 49; ((with_reducible refine (GB.out _ (by assumption)).mono ?_); rintro e w2 ⟨rfl, z0, z2⟩)))
  clear GB y1 y3
  go_wp2
  go_ret
  exact ⟨rfl, z2⟩
end
end Go.Proofs.Ytnpiimaapholiaa
