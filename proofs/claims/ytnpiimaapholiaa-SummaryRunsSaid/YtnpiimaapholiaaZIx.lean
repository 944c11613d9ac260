import Derived.Test.YtnpiimaapholiaaZKy
import Derived.Test.YtnpiimaapholiaaHashR
import Derived.Test.YtnpiimaapholiaaZKyMath
import Derived.BigRegion
import Derived.WalkMore
import Derived.Test.YtnpiimaapholiaaMap
/- The contracts of layer 5 (index): what reads. -/
namespace Go.Proofs.Ytnpiimaapholiaa
set_option linter.unusedSimpArgs false
set_option linter.unusedVariables false
open Go.ChangeShapes Go.WideShapes Go.ChangeAt Go.RowKit
/-- whole numbers from 0 on as cells. -/
abbrev natC (k : IntKind) (l : List Nat) : Array Value := (l.map fun x : Nat => Value.int k (x : Int)).toArray
theorem natC_get (k : IntKind) (l : List Nat) (i : Nat) (h : i < l.length) : (natC k l)[i]? = some (.int k ((l.getD i 0 : Nat) : Int)) := by
  unfold natC
  rw [List.getElem?_toArray, List.getElem?_map, List.getElem?_eq_getElem h]
  simp [List.getD, h]
theorem natC_set (k : IntKind) (l : List Nat) (i v : Nat) : (natC k l).setIfInBounds i (.int k (v : Int)) = natC k (l.set i v) := by
  unfold natC; simp only [List.map_set, List.setIfInBounds_toArray]
theorem getD_setN (l : List Nat) (i v : Nat) (hi : i < l.length) : (fun j => (l.set i v).getD j 0) = Ix.upN (fun j => l.getD j 0) i v := by
  funext j
  simp only [Ix.upN, List.getD, List.getElem?_set]
  by_cases h : i = j
  · subst h; simp [hi]
  · rw [if_neg h, if_neg (fun e => h e.symm)]
/-- what a callee that makes memory keeps: cells of a block, and all that is below. -/
theorem Calls.hold {S : World → Prop} {f : Nat} {args : Array Value} {v : Value} {w : World} (hS : ∀ b, Below w.heap.size w b → S b)
    (c : Calls Try.prog f args w fun e w' => e = .returned v ∧ Below w.heap.size w w') : Calls Try.prog f args w fun e w' => e = .returned v ∧ S w' :=
  c.mono (fun _ _ hh => ⟨hh.1, hS _ hh.2⟩)
theorem below_in {W0 w w' : World} (h : Below W0.heap.size W0 w) (b : Below w.heap.size w w') : Below W0.heap.size W0 w' := h.trans (b.mono h.size)
abbrev ixC (b X A B g m : Nat) : Array Value := #[.pointer (some ⟨b, 0, none⟩), .int .u64 (X : Int), .int .u64 (A : Int), .int .u64 (B : Int), .slice (some ⟨g, 0, none⟩) m m]
/-- an index in memory. -/
structure IxMem (w : World) (x b X A B g gb gs gf n m : Nat) (fl : List Nat) (K : Nat → Option ByteArray) (L : List Nat) : Prop where
  hx : Blk w x 85 (ixC b X A B g m)
  hg : Blk w g 82 (natC .u32 L)
  len : L.length = m
  sz : m = 2 * n + 1
  ks : KeysIn w b gb gs gf n fl K
  lX : X < 2305843009213693951
  lA : A < 2305843009213693951
  lB : B < 2305843009213693951
  ne : x ≠ g ∧ x ≠ b ∧ x ≠ gb ∧ x ≠ gs ∧ x ≠ gf ∧ g ≠ b ∧ g ≠ gb ∧ g ≠ gs ∧ g ≠ gf
/-- where the search for a key begins. -/
def ixH (X A B m : Nat) (s : ByteArray) : Nat := plc (Ha.hof X A B s.data.toList) (m : Int)
theorem ixH_lt (X A B : Nat) {m : Nat} (hm : 1 ≤ m) (s : ByteArray) : ixH X A B m s < m := by
  have := plc_lt (Ha.hof X A B s.data.toList) (n := (m : Int)) (by omega)
  rw [Int.toNat_natCast] at this
  exact this
theorem IxMem.keep {W w : World} {x b X A B g gb gs gf n m : Nat} {fl : List Nat} {K : Nat → Option ByteArray} {L : List Nat} (h : IxMem W x b X A B g gb gs gf n m fl K L) (hb : Below W.heap.size W w) : IxMem w x b X A B g gb gs gf n m fl K L :=
  ⟨h.hx.keep hb, h.hg.keep hb, h.len, h.sz, h.ks.keep hb, h.lX, h.lA, h.lB, h.ne⟩
theorem ixB_any (X A B : Nat) (hX : X < 2305843009213693951) (hA : A < 2305843009213693951) (hB : B < 2305843009213693951) (s : ByteArray) (hs : s.size ≤ maxLen) (m : Nat) (hm : m ≤ 131073) (w : World) :
    Calls Try.prog 49 #[.agg #[.int .u64 X, .int .u64 A, .int .u64 B], .string s, .int .i64 (m : Int)] w fun e w' => e = .returned (.int .i64 (ixH X A B m s : Nat)) ∧ Below w.heap.size w w' :=
  bucket_any X A B hX hA hB s hs (m : Int) (by omega) w
section
variable {x b X A B g gb gs gf n m : Nat} {fl : List Nat} {K : Nat → Option ByteArray} {L : List Nat}
set_option maxHeartbeats 400000 in
theorem ixafter_any (p : Nat) (w : World) (h : IxMem w x b X A B g gb gs gf n m fl K L) (hp : p < m) : Calls Try.prog 51 #[.pointer (some ⟨x, 0, none⟩), .int .i64 (p : Int)] w fun e w' => e = .returned (.int .i64 (Ix.nxt m p : Nat)) ∧ w = w' := by
  have k := h.hx.rd
  have hn := h.ks.pl.2.1
  have hm := h.sz
  have t1 : (p : Int) ≤ 131073 := by omega
  obtain ⟨r, hr⟩ : ∃ r, r = Ix.nxt m p := ⟨_, rfl⟩
  have hor := Ix.nxt_or m p
  rw [← hr] at hor ⊢
  clear h hn hm hr
  rcases hor with ⟨h1, h2⟩ | ⟨h1, h2⟩
  · subst h2
    have t2 : ((p : Int) + 1 == (m : Int)) = true := beq_iff_eq.2 (by omega)
    have t3 : (p : Int) + 1 = (m : Int) := by omega
    clear h1 hp t3
    go_enter Try.func51, Try.ntmps51
    go_wp2
    go_ret
    exact ⟨rfl, rfl⟩
  · subst h2
    have t2 : ((p : Int) + 1 == (m : Int)) = false := beq_eq_false_iff_ne.2 (by omega)
    clear h1 hp
    go_enter Try.func51, Try.ntmps51
    go_wp2
    go_ret
    exact ⟨ret_i (by omega), rfl⟩
set_option maxHeartbeats 400000 in
theorem ixdist_any (p q : Nat) (w : World) (h : IxMem w x b X A B g gb gs gf n m fl K L) (hp : p < m) (hq : q < m) : Calls Try.prog 52 #[.pointer (some ⟨x, 0, none⟩), .int .i64 (p : Int), .int .i64 (q : Int)] w fun e w' => e = .returned (.int .i64 (Ix.dst m p q : Nat)) ∧ w = w' := by
  have k := h.hx.rd
  have hn := h.ks.pl.2.1
  have hm := h.sz
  have t1 : (p : Int) ≤ 131073 := by omega
  have t2 : (q : Int) ≤ 131073 := by omega
  have t3 : (m : Int) ≤ 131073 := by omega
  obtain ⟨r, hr⟩ : ∃ r, r = Ix.dst m p q := ⟨_, rfl⟩
  have hor := Ix.dst_or m p q
  rw [← hr] at hor ⊢
  clear h hn hm hr
  rcases hor with ⟨h1, h2⟩ | ⟨h1, h2⟩
  · have t4 : decide (q < p) = true := by simpa using h1
    have HR := Lib.hid (show (q : Int) + (m : Int) - (p : Int) = (r : Int) by omega)
    clear h2
    go_enter Try.func52, Try.ntmps52
    go_wp2
    go_ret
    exact ⟨ret_i HR.out, rfl⟩
  · have t4 : decide (q < p) = false := by rw [decide_eq_false_iff_not]; omega
    have HR := Lib.hid (show (q : Int) - (p : Int) = (r : Int) by omega)
    clear h2
    go_enter Try.func52, Try.ntmps52
    go_wp2
    go_ret
    exact ⟨ret_i HR.out, rfl⟩
set_option maxHeartbeats 2000000 in
theorem ixhome_any (p i : Nat) (s : ByteArray) (w : World) (h : IxMem w x b X A B g gb gs gf n m fl K L) (hp : p < m) (hT : L.getD p 0 = i + 1) (hk : K i = some s) : Calls Try.prog 53 #[.pointer (some ⟨x, 0, none⟩), .int .i64 (p : Int)] w fun e w' => e = .returned (.int .i64 (ixH X A B m s : Nat)) ∧ Below w.heap.size w w' := by
  have k := h.hx.rd
  have hn := h.ks.pl.2.1
  have hm := h.sz
  have hi := (h.ks.pl.1.lt (i := i) (by rw [hk]; rfl)).1
  have hs := h.ks.pl.2.2 i s hk
  obtain ⟨v, hv⟩ : ∃ v, v = i + 1 := ⟨_, rfl⟩
  have k2 : w.cell? ⟨g, p, none⟩ = some (.int .u32 (v : Int)) := by rw [blk_cell h.hg, natC_get _ _ _ (by rw [h.len]; exact hp), hT, hv]
  have CK := Lib.hid (fun wx (hx : Below w.heap.size w wx) => key_yes i s wx (h.ks.keep hx) hi hk)
  have CB := Lib.hid (fun wx => ixB_any X A B h.lX h.lA h.lB s (by unfold maxLen; omega) m (by omega) wx)
  have HH := Lib.hid h
  have t1 : (p : Int) < (m : Int) := by omega
  have t2 : (m : Int) ≤ 131073 := by omega
  have t3 : (i : Int) ≤ 65536 := by omega
  have e1 : IntKind.i64.wrap (v : Int) = (v : Int) := by rw [IntKind.wrap_i64]; omega
  have e3 : IntKind.i64.wrap ((v : Int) - 1) = (i : Int) := by rw [IntKind.wrap_i64]; omega
  clear h hn hm hi hs hT hk hp hv
  go_enter Try.func53, Try.ntmps53
  go_upto_region 1 with (fail)
  have y1 : ∀ j, w.drew.cell? ⟨x, j, none⟩ = (ixC b X A B g m)[j]? := (Blk.drew HH.out.hx).rd
  have y2 : w.drew.cell? ⟨g, p, none⟩ = some (.int .u32 (v : Int)) := k2
  have y3 : Below w.heap.size w w.drew := below_draws (Below.refl _ _) 1
  have GK := Lib.hid (fun (wx : World) (hx : Below w.heap.size w wx) => Calls.hold (S := fun w' => (∀ j, w'.cell? ⟨x, j, none⟩ = (ixC b X A B g m)[j]?) ∧ w'.cell? ⟨g, p, none⟩ = some (.int .u32 (v : Int)) ∧ Below w.heap.size w w') (fun wb hb => ⟨(HH.out.hx.keep (below_in hx hb)).rd, ((below_in hx hb).cell (lt_of_cell k2)).trans k2, below_in hx hb⟩) (CK.out wx hx))
  go_region_held3 (fun w' => (∀ j, w'.cell? ⟨x, j, none⟩ = (ixC b X A B g m)[j]?) ∧ w'.cell? ⟨g, p, none⟩ = some (.int .u32 (v : Int)) ∧ Below w.heap.size w w') (first | (refine ⟨?_, ?_, ?_⟩ <;> assumption) | go_keep)
    ((go_at_call 31; ((with_reducible refine (GK.out _ (by assumption)).mono ?_); rintro e w1 ⟨rfl, z0, z1, z2⟩)))
  clear GK y1 y2 y3
  go_upto_region 2 with (fail)
  have Z2 := Lib.hid z2
  have y1 : ∀ j, w1.drew.cell? ⟨x, j, none⟩ = (ixC b X A B g m)[j]? := z0
  have y3 : Below w.heap.size w w1.drew := below_draws z2 1
  clear z0 z1 z2
  have GB := Lib.hid (fun (wx : World) (hx : Below w.heap.size w wx) => Calls.hold (S := fun w' => (∀ j, w'.cell? ⟨x, j, none⟩ = (ixC b X A B g m)[j]?) ∧ Below w.heap.size w w') (fun wb hb => ⟨(HH.out.hx.keep (below_in hx hb)).rd, below_in hx hb⟩) (CB.out wx))
  go_region_held3 (fun w' => (∀ j, w'.cell? ⟨x, j, none⟩ = (ixC b X A B g m)[j]?) ∧ Below w.heap.size w w') (first | (refine ⟨?_, ?_⟩ <;> assumption) | go_keep)
    ((go_at_call 49; ((with_reducible refine (GB.out _ (by assumption)).mono ?_); rintro e w2 ⟨rfl, z0, z2⟩)))
  clear GB y1 y3
  go_wp2
  go_ret
  exact ⟨rfl, z2⟩
end
end Go.Proofs.Ytnpiimaapholiaa
/- The contracts of layer 5 (index): the search. -/
namespace Go.Proofs.Ytnpiimaapholiaa
set_option linter.unusedSimpArgs false
set_option linter.unusedVariables false
open Go.ChangeShapes Go.WideShapes Go.ChangeAt Go.RowKit
theorem str_ne {s t : ByteArray} (h : t ≠ s) : (t.toList == s.toList) = false :=
  beq_eq_false_iff_ne.2 (fun e => h (ByteArray.ext (Array.toList_inj.1 (by rw [ByteArray.toList_eq, ByteArray.toList_eq] at e; exact e))))
theorem isB_other {K : Nat → Option ByteArray} {n i : Nat} {s t : ByteArray} (hk : K i = some t) (h : t ≠ s) : isB K n (i : Int) s = false := by
  unfold isB; simp only [Int.toNat_natCast, hk, str_ne h, Bool.and_false]
theorem isB_same {K : Nat → Option ByteArray} {n i : Nat} {s : ByteArray} (hk : K i = some s) (h : i < n) : isB K n (i : Int) s = true := by
  unfold isB; simp [hk, h]
theorem ret_ib {k : IntKind} {a a' : Int} {b b' : Bool} (h : a = a') (g : b = b') : Ending.returned (.tuple #[.int k a, .bool b]) = .returned (.tuple #[.int k a', .bool b']) := by rw [h, g]
/-- what a search tells. -/
def SeekP (w : World) (m : Nat) (f : ByteArray → Nat) (K : Nat → Option ByteArray) (L : List Nat) (s : ByteArray) (e : Ending) (w' : World) : Prop :=
  ∃ (p : Nat) (b : Bool), e = .returned (.tuple #[.int .i64 (p : Int), .bool b]) ∧ p < m ∧ (b = true → ∃ i, L.getD p 0 = i + 1 ∧ K i = some s) ∧ (b = false → L.getD p 0 = 0 ∧ Ix.Far m f K (fun q => L.getD q 0) s (Ix.dst m (f s) p)) ∧ Below w.heap.size w w'
section
variable {x b X A B g gb gs gf n m : Nat} {fl : List Nat} {K : Nat → Option ByteArray} {L : List Nat}
set_option maxHeartbeats 2000000 in
theorem ixseek_gen (s : ByteArray) (hs : s.size ≤ maxLen) (w : World) (h : IxMem w x b X A B g gb gs gf n m fl K L) (t : Ix.Tab m n (ixH X A B m) K (fun q => L.getD q 0)) :
    Calls Try.prog 45 #[.pointer (some ⟨x, 0, none⟩), .string s] w (SeekP w m (ixH X A B m) K L s) := by
  have k := h.hx.rd
  have hn := h.ks.pl.2.1
  have hm := h.sz
  have CB := Lib.hid (fun wx => ixB_any X A B h.lX h.lA h.lB s hs m (by omega) wx)
  have HH := Lib.hid h
  have TT := Lib.hid t
  have HM := Lib.hid hm
  have t2 : (m : Int) ≤ 131073 := by omega
  obtain ⟨f0, hf0⟩ : ∃ f0, f0 = ixH X A B m s := ⟨_, rfl⟩
  have hfl := t.home s
  rw [← hf0] at CB hfl
  have HF := Lib.hid hf0
  clear h hm t hs hf0 hn
  go_enter Try.func45, Try.ntmps45
  go_upto_region 3 with (fail)
  have y1 : ∀ j, w.drew.cell? ⟨x, j, none⟩ = (ixC b X A B g m)[j]? := (Blk.drew HH.out.hx).rd
  have y3 : Below w.heap.size w w.drew := below_draws (Below.refl _ _) 1
  have GB := Lib.hid (fun (wx : World) (hx : Below w.heap.size w wx) => Calls.hold (S := fun w' => (∀ j, w'.cell? ⟨x, j, none⟩ = (ixC b X A B g m)[j]?) ∧ Below w.heap.size w w') (fun wb hb => ⟨(HH.out.hx.keep (below_in hx hb)).rd, below_in hx hb⟩) (CB.out wx))
  go_region_held3 (fun w' => (∀ j, w'.cell? ⟨x, j, none⟩ = (ixC b X A B g m)[j]?) ∧ Below w.heap.size w w') (first | (refine ⟨?_, ?_⟩ <;> assumption) | go_keep)
    ((go_at_call 49; ((with_reducible refine (GB.out _ (by assumption)).mono ?_); rintro e w2 ⟨rfl, z0, z2⟩)))
  clear GB y1 y3 k
  have k := z0
  have Z2 := Lib.hid z2
  clear z2
  go_wp2
  clear k z0
  go_loopg [6, 25] m (fun k sa si wr => ∃ p d : Nat, sa = .int .i64 (p : Int) ∧ si = .int .i64 (d : Int) ∧ p < m ∧ Hid (d = Ix.dst m (ixH X A B m s) p) ∧ k = m - d ∧ Hid (Ix.Far m (ixH X A B m) K (fun q => L.getD q 0) s d) ∧ Below w.heap.size w wr)
  case atStart => exact ⟨f0, 0, rfl, rfl, hfl, Lib.hid (by rw [← HF.out, Ix.dst_self]), by omega, Lib.hid (Ix.far_zero _ _ _ _ _), Z2.out⟩
  case round =>
    obtain ⟨p, d, rfl, rfl, hp, HD, hkk, FR, hb⟩ := hrel
    have hdm := Ix.far_more TT.out FR.out
    have HB := Lib.hid hb
    have HR := Lib.hid (HH.out.keep hb)
    have HK := Lib.hid hkk
    clear hb hkk
    have k := HR.out.hx.rd
    have t1 : (d : Int) < (m : Int) := by omega
    have t3 : (p : Int) < (m : Int) := by omega
    have t4 : decide (d < m) = true := by simpa using hdm
    obtain ⟨v, hv⟩ : ∃ v, v = L.getD p 0 := ⟨_, rfl⟩
    have k2 : wr.cell? ⟨g, p, none⟩ = some (.int .u32 (v : Int)) := by rw [blk_cell HR.out.hg, natC_get _ _ _ (by rw [HR.out.len]; exact hp), hv]
    by_cases hv0 : v = 0
    · have k3 : wr.cell? ⟨g, p, none⟩ = some (.int .u32 0) := by rw [k2, hv0]; rfl
      have HV := Lib.hid (hv.symm.trans hv0)
      clear k2 hv hv0
      go_wp2
      go_ret2
      exact ⟨p, false, rfl, hp, (fun e => by cases e), (fun _ => ⟨HV.out, by rw [← HD.out]; exact FR.out⟩), HB.out⟩
    · have hok := TT.out.ok p hp (by show L.getD p 0 ≠ 0; rw [← hv]; exact hv0)
      obtain ⟨s', hk', _⟩ := hok
      have hk' : K (L.getD p 0 - 1) = some s' := hk'
      obtain ⟨i, hi⟩ : ∃ i, v = i + 1 := ⟨v - 1, by omega⟩
      rw [← hv, show v - 1 = i by omega] at hk'
      have hin := TT.out.lt i s' hk'
      have hn := HR.out.ks.pl.2.1
      have t5 : ((v : Int) == 0) = false := beq_eq_false_iff_ne.2 (by omega)
      have e1 : IntKind.i64.wrap (v : Int) = (v : Int) := by rw [IntKind.wrap_i64]; omega
      have e3 : IntKind.i64.wrap ((v : Int) - 1) = (i : Int) := by rw [IntKind.wrap_i64]; omega
      have HV := Lib.hid (And.intro hv hi)
      have HI := Lib.hid hin
      have HK' := Lib.hid hk'
      have y1 : ∀ j, wr.drew.cell? ⟨x, j, none⟩ = (ixC b X A B g m)[j]? := (Blk.drew HR.out.hx).rd
      have y2 : wr.drew.cell? ⟨g, p, none⟩ = some (.int .u32 (v : Int)) := k2
      have y3 : Below wr.heap.size wr wr.drew := below_draws (Below.refl _ _) 1
      by_cases hss : s' = s
      · have CI := Lib.hid (fun wx (hx : Below wr.heap.size wr wx) => show Calls Try.prog 50 #[.pointer (some ⟨b, 0, none⟩), .int .i64 (i : Int), .string s] wx (fun e w' => e = .returned (.bool true) ∧ Below wx.heap.size wx w') from by
          have := is_any (i : Int) s wx (HR.out.ks.keep hx)
          rwa [isB_same (by rw [HK'.out, hss]) HI.out] at this)
        have GK := Lib.hid (fun (wx : World) (hx : Below wr.heap.size wr wx) => Calls.hold (S := fun w' => (∀ j, w'.cell? ⟨x, j, none⟩ = (ixC b X A B g m)[j]?) ∧ w'.cell? ⟨g, p, none⟩ = some (.int .u32 (v : Int)) ∧ Below wr.heap.size wr w') (fun wb hb => ⟨(HR.out.hx.keep (below_in hx hb)).rd, ((below_in hx hb).cell (lt_of_cell k2)).trans k2, below_in hx hb⟩) (CI.out wx hx))
        have HSS := Lib.hid hss
        clear hv hi hin hn hk' hss hv0
        go_upto_region 8 with (fail)
        clear k
        go_region_held3 (fun w' => (∀ j, w'.cell? ⟨x, j, none⟩ = (ixC b X A B g m)[j]?) ∧ w'.cell? ⟨g, p, none⟩ = some (.int .u32 (v : Int)) ∧ Below wr.heap.size wr w') (first | (refine ⟨?_, ?_, ?_⟩ <;> assumption) | go_keep)
          ((go_at_call 50; ((with_reducible refine (GK.out _ (by assumption)).mono ?_); rintro e w1 ⟨rfl, z0, z1, z2⟩)))
        clear GK y1 y2 y3
        go_wp2
        go_ret2
        exact ⟨p, true, rfl, hp, (fun _ => ⟨i, by rw [← HV.out.1, HV.out.2], by rw [HK'.out, HSS.out]⟩), (fun e => by cases e), below_in HB.out z2⟩
      · have CI := Lib.hid (fun wx (hx : Below wr.heap.size wr wx) => show Calls Try.prog 50 #[.pointer (some ⟨b, 0, none⟩), .int .i64 (i : Int), .string s] wx (fun e w' => e = .returned (.bool false) ∧ Below wx.heap.size wx w') from by
          have := is_any (i : Int) s wx (HR.out.ks.keep hx)
          rwa [isB_other HK'.out hss] at this)
        have GK := Lib.hid (fun (wx : World) (hx : Below wr.heap.size wr wx) => Calls.hold (S := fun w' => (∀ j, w'.cell? ⟨x, j, none⟩ = (ixC b X A B g m)[j]?) ∧ w'.cell? ⟨g, p, none⟩ = some (.int .u32 (v : Int)) ∧ Below wr.heap.size wr w') (fun wb hb => ⟨(HR.out.hx.keep (below_in hx hb)).rd, ((below_in hx hb).cell (lt_of_cell k2)).trans k2, below_in hx hb⟩) (CI.out wx hx))
        have fs := Ix.far_step TT.out hp (s := s) (by rw [← HD.out]; exact FR.out) (show L.getD p 0 ≠ 0 by omega) (by
          show K (L.getD p 0 - 1) ≠ some s
          rw [← hv, show v - 1 = i by omega, hk']
          intro e; injection e with e; exact hss e)
        rw [← HD.out] at fs
        have hdm2 := Ix.far_more TT.out fs
        have dn := Ix.dst_nxt (m := m) (a := ixH X A B m s) (b := p) (TT.out.home s) hp (by rw [← HD.out]; exact hdm2)
        rw [← HD.out] at dn
        have FS := Lib.hid (And.intro fs dn)
        have CA := Lib.hid (fun wx (hx : Below wr.heap.size wr wx) => ixafter_any p wx (HR.out.keep hx) hp)
        have HNX := Lib.hid (Ix.nxt_lt hp)
        obtain ⟨nx, hnx⟩ : ∃ nx, nx = Ix.nxt m p := ⟨_, rfl⟩
        rw [← hnx] at CA FS HNX
        clear hv hi hin hn hk' hss hv0 fs dn hnx
        go_upto_region 8 with (fail)
        clear k
        go_region_held3 (fun w' => (∀ j, w'.cell? ⟨x, j, none⟩ = (ixC b X A B g m)[j]?) ∧ w'.cell? ⟨g, p, none⟩ = some (.int .u32 (v : Int)) ∧ Below wr.heap.size wr w') (first | (refine ⟨?_, ?_, ?_⟩ <;> assumption) | go_keep)
          ((go_at_call 50; ((with_reducible refine (GK.out _ (by assumption)).mono ?_); rintro e w1 ⟨rfl, z0, z1, z2⟩)))
        clear GK y1 y2 y3
        go_wp2_with (go_at_call 51; ((with_reducible refine (CA.out _ z2).mono ?_); rintro e w3 ⟨rfl, rfl⟩))
        go_roundg (m - (d + 1))
        case measure => have := HK.out; omega
        case rel => exact ⟨nx, d + 1, rfl, by go_num, HNX.out, Lib.hid FS.out.2.symm, by omega, Lib.hid FS.out.1, below_in HB.out z2⟩
/-- a key that is there. -/
theorem ixseek_yes (i : Nat) (s : ByteArray) (hs : s.size ≤ maxLen) (hk : K i = some s) (w : World) (h : IxMem w x b X A B g gb gs gf n m fl K L) (t : Ix.Tab m n (ixH X A B m) K (fun q => L.getD q 0)) :
    Calls Try.prog 45 #[.pointer (some ⟨x, 0, none⟩), .string s] w fun e w' => ∃ p : Nat, e = .returned (.tuple #[.int .i64 (p : Int), .bool true]) ∧ p < m ∧ L.getD p 0 = i + 1 ∧ Below w.heap.size w w' := by
  refine (ixseek_gen s hs w h t).mono ?_
  rintro e w' ⟨p, b, he, hp, h1, h2, hb⟩
  cases b with
  | true =>
    obtain ⟨j, hj, hkj⟩ := h1 rfl
    have := t.key j i s hkj hk
    subst this
    exact ⟨p, he, hp, hj, hb⟩
  | false => exact absurd hk (Ix.far_none t hp (h2 rfl).2 (h2 rfl).1 i)
/-- a key that isn't. -/
theorem ixseek_no (s : ByteArray) (hs : s.size ≤ maxLen) (hk : ∀ i, K i ≠ some s) (w : World) (h : IxMem w x b X A B g gb gs gf n m fl K L) (t : Ix.Tab m n (ixH X A B m) K (fun q => L.getD q 0)) :
    Calls Try.prog 45 #[.pointer (some ⟨x, 0, none⟩), .string s] w fun e w' => ∃ p : Nat, e = .returned (.tuple #[.int .i64 (p : Int), .bool false]) ∧ (p < m ∧ L.getD p 0 = 0 ∧ Ix.Far m (ixH X A B m) K (fun q => L.getD q 0) s (Ix.dst m (ixH X A B m s) p)) ∧ Below w.heap.size w w' := by
  refine (ixseek_gen s hs w h t).mono ?_
  rintro e w' ⟨p, b, he, hp, h1, h2, hb⟩
  cases b with
  | true =>
    obtain ⟨j, _, hkj⟩ := h1 rfl
    exact absurd hkj (hk j)
  | false => exact ⟨p, he, ⟨hp, (h2 rfl).1, (h2 rfl).2⟩, hb⟩
end
theorem ixseek_nil (s : ByteArray) (w : World) : Calls Try.prog 45 #[.pointer none, .string s] w fun e w' => e = .returned (.tuple #[.int .i64 (-1), .bool false]) ∧ w = w' := by
  go_enter Try.func45, Try.ntmps45
  go_wp2
  go_ret2
  exact ⟨rfl, rfl⟩
end Go.Proofs.Ytnpiimaapholiaa
/- The contracts of layer 5 (index): a hole is filled. -/
namespace Go.Proofs.Ytnpiimaapholiaa
set_option linter.unusedSimpArgs false
set_option linter.unusedVariables false
open Go.ChangeShapes Go.WideShapes Go.ChangeAt Go.RowKit
section
variable {x b X A B g gb gs gf n m : Nat} {fl : List Nat} {K : Nat → Option ByteArray} {L : List Nat}
theorem IxMem.set {w : World} (h : IxMem w x b X A B g gb gs gf n m fl K L) (L' : List Nat) (hl : L'.length = m) : IxMem (setObj w g (.cells (natC .u32 L') 82 (0, 0))) x b X A B g gb gs gf n m fl K L' := by
  have ne := h.ne
  have hlt := lt_of_block h.hg
  refine ⟨(setObj_other w ne.1 _).trans h.hx, setObj_at hlt _, hl, h.sz, ?_, h.lX, h.lA, h.lB, ne⟩
  obtain ⟨bs, ss, fs, k⟩ := h.ks
  exact ⟨bs, ss, fs, (setObj_other w (Ne.symm ne.2.2.2.2.2.1) _).trans k.hb, (setObj_other w (Ne.symm ne.2.2.2.2.2.2.1) _).trans k.hgb, (setObj_other w (Ne.symm ne.2.2.2.2.2.2.2.1) _).trans k.hgs, (setObj_other w (Ne.symm ne.2.2.2.2.2.2.2.2) _).trans k.hgf, k.lb, k.ls, k.lf, k.vs, k.vf, k.vb, k.pl, k.n1, k.ne⟩
theorem IxMem.drewN {w : World} (h : IxMem w x b X A B g gb gs gf n m fl K L) (d : Nat) : IxMem (w.drewN d) x b X A B g gb gs gf n m fl K L := h.keep (below_draws (Below.refl _ _) d)
theorem natC_set0 (k : IntKind) (l : List Nat) (i : Nat) : (natC k l).setIfInBounds i (.int k 0) = natC k (l.set i 0) := natC_set k l i 0
set_option maxHeartbeats 4000000 in
theorem ixempty_any (i p : Nat) (s : ByteArray) (w : World) (h : IxMem w x b X A B g gb gs gf n m fl K L) (t : Ix.Tab m n (ixH X A B m) K (fun q => L.getD q 0)) (hp : p < m) (hT : L.getD p 0 = i + 1) (hk : K i = some s) :
    Calls Try.prog 47 #[.pointer (some ⟨x, 0, none⟩), .int .i64 (p : Int)] w fun e w' => e = .returned (.tuple #[]) ∧ ∃ L', IxMem w' x b X A B g gb gs gf n m fl K L' ∧ Ix.Tab m n (ixH X A B m) (fun j => if j = i then none else K j) (fun q => L'.getD q 0) ∧ Fr (fun k => k = g) w w' := by
  have hn := h.ks.pl.2.1
  have hm := h.sz
  have hin := t.lt i s hk
  have t2 : (m : Int) ≤ 131073 := by omega
  have t3 : (p : Int) < (m : Int) := by omega
  have k := h.hx.rd
  have k2 : w.cell? ⟨g, p, none⟩ = some (.int .u32 ((L.getD p 0 : Nat) : Int)) := by rw [blk_cell h.hg, natC_get _ _ _ (by rw [h.len]; exact hp)]
  have k0 := h.hg.wr
  have j0 := Ix.jab_new t hp hT
  rw [← getD_setN L p 0 (by rw [h.len]; exact hp)] at j0
  have HH := Lib.hid h
  have J0 := Lib.hid j0
  have HIN := Lib.hid (show 1 ≤ n by omega)
  clear h j0 t hk hT hin hn hm
  go_enter Try.func47, Try.ntmps47
  go_wp2
  go_step3
  go_wp2
  go_step3
  go_wp2
  rw [setCell_obj HH.out.hg, natC_set0]
  have hmem := HH.out.set (L.set p 0) (by rw [List.length_set]; exact HH.out.len)
  have hfr : Fr (fun k => k = g) w (setObj w g (.cells (natC .u32 (L.set p 0)) 82 (0, 0))) := Fr.setObj (F := fun k => k = g) (Fr.refl _ _) rfl _
  generalize (setObj w g (.cells (natC .u32 (L.set p 0)) 82 (0, 0))) = w1 at hmem hfr ⊢
  have M1 := Lib.hid hmem
  have F1 := Lib.hid hfr
  obtain ⟨z, hz1, hz2, hz3⟩ := Ix.jab_free J0.out HIN.out
  have Z0 := Lib.hid (And.intro hz2 (And.intro hz1 hz3))
  clear hmem hfr hz1 hz2 hz3 k k0 k2
  go_loopg [1] (Ix.dst m p z) (fun k s1 wr => ∃ (h : Nat) (L1 : List Nat), s1 = .int .i64 (h : Int) ∧ Hid (IxMem wr x b X A B g gb gs gf n m fl K L1) ∧ Hid (Ix.Jab m n (ixH X A B m) (fun j => if j = i then none else K j) (fun q => L1.getD q 0) h) ∧ Hid (z ≠ h ∧ z < m ∧ L1.getD z 0 = 0) ∧ Hid (k = Ix.dst m h z) ∧ Hid (Fr (fun k => k = g) w wr))
  case atStart => exact ⟨p, L.set p 0, rfl, M1, J0, Z0, Lib.hid rfl, F1⟩
  case round =>
    obtain ⟨h, L1, rfl, MO, JO, ZO, GO, FO⟩ := hrel
    clear M1 F1 J0 Z0
    obtain ⟨wo, hwo⟩ : ∃ wo : World, wo = wr := ⟨_, rfl⟩
    rw [← hwo] at MO FO ⊢
    clear hwo
    have hh := JO.out.hl
    have CA := Lib.hid (fun wx (hx : Below wo.heap.size wo wx) => ixafter_any h wx (MO.out.keep hx) hh)
    have dn := Ix.dst_nxt (m := m) (a := h) (b := h) hh hh (by rw [Ix.dst_self]; have := MO.out.sz; have := HIN.out; omega)
    rw [Ix.dst_self] at dn
    obtain ⟨nx, hnx⟩ : ∃ nx, nx = Ix.nxt m h := ⟨_, rfl⟩
    have hnl := Ix.nxt_lt hh
    rw [← hnx] at CA dn hnl
    have NX := Lib.hid (And.intro dn hnl)
    clear dn hnl hnx
    go_wp2_with (go_at_call 51; ((with_reducible refine (CA.out _ (Below.refl _ _)).mono ?_); rintro e w3 ⟨rfl, rfl⟩))
    go_loopg [1, 4] (m - 1) (fun k s1 s4 wr => ∃ q : Nat, s1 = .int .i64 (h : Int) ∧ s4 = .int .i64 (q : Int) ∧ q < m ∧ Hid (q ≠ h ∧ Ix.Past m (ixH X A B m) (fun j => if j = i then none else K j) (fun q => L1.getD q 0) h (Ix.dst m h q) ∧ Ix.dst m h q ≤ Ix.dst m h z ∧ k = m - Ix.dst m h q) ∧ Hid (Below wo.heap.size wo wr))
    case atStart =>
      refine ⟨nx, rfl, rfl, NX.out.2, Lib.hid ⟨fun e => ?_, ?_, ?_, ?_⟩, Lib.hid (Below.refl _ _)⟩
      · have := NX.out.1; rw [e, Ix.dst_self] at this; omega
      · rw [NX.out.1]; exact Ix.past_one _ _ _ _ _
      · rw [NX.out.1]
        have h1 := Ix.dst_or m h z
        have h2 := ZO.out
        omega
      · rw [NX.out.1]
    case round =>
      obtain ⟨q, rfl, rfl, hq, QI, BI⟩ := hrel
      have MI := Lib.hid (MO.out.keep BI.out)
      obtain ⟨v, hv⟩ : ∃ v, v = L1.getD q 0 := ⟨_, rfl⟩
      have k := MI.out.hx.rd
      have k2 : wr.cell? ⟨g, q, none⟩ = some (.int .u32 (v : Int)) := by rw [blk_cell MI.out.hg, natC_get _ _ _ (by rw [MI.out.len]; exact hq), hv]
      have t3 : (q : Int) < (m : Int) := by omega
      by_cases hv0 : v = 0
      · have k3 : wr.cell? ⟨g, q, none⟩ = some (.int .u32 0) := by rw [k2, hv0]; rfl
        have HV := Lib.hid (hv.symm.trans hv0)
        clear k2 hv hv0
        go_wp2
        rw [Exit.noGoto_ret]
        (try simp only [Exit.inBlock, Exit.then])
        refine bodyPost_ret (results_none rfl _ _ _) rfl ⟨rfl, L1, MI.out, ?_, FO.out.trans (Fr.of_below BI.out)⟩
        exact Ix.jab_end JO.out hq QI.out.1 QI.out.2.1 HV.out
      · obtain ⟨s', hk', hw'⟩ := JO.out.ok q hq (by show L1.getD q 0 ≠ 0; rw [← hv]; exact hv0)
        have hk1 : (if L1.getD q 0 - 1 = i then none else K (L1.getD q 0 - 1)) = some s' := hk'
        obtain ⟨r, hr⟩ : ∃ r, v = r + 1 := ⟨v - 1, by omega⟩
        rw [← hv, show v - 1 = r by omega] at hk1
        have hri : r ≠ i := fun e => by rw [if_pos e] at hk1; cases hk1
        rw [if_neg hri] at hk1
        have CH := Lib.hid (fun wx (hx : Below wr.heap.size wr wx) => ixhome_any q r s' wx (MI.out.keep hx) hq (by rw [← hv, hr]) hk1)
        obtain ⟨f1, hf1⟩ : ∃ f1, f1 = ixH X A B m s' := ⟨_, rfl⟩
        have hfl := JO.out.home s'
        have CD1 := Lib.hid (fun wx (hx : Below wr.heap.size wr wx) => ixdist_any f1 q wx (MI.out.keep hx) (by rw [hf1]; exact hfl) hq)
        have CD2 := Lib.hid (fun wx (hx : Below wr.heap.size wr wx) => ixdist_any h q wx (MI.out.keep hx) JO.out.hl hq)
        rw [← hf1] at CH
        obtain ⟨d1, hd1⟩ : ∃ d1, d1 = Ix.dst m f1 q := ⟨_, rfl⟩
        obtain ⟨d2, hd2⟩ : ∃ d2, d2 = Ix.dst m h q := ⟨_, rfl⟩
        rw [← hd1] at CD1
        rw [← hd2] at CD2
        have t5 : ((v : Int) != 0) = true := by rw [bne_iff_ne]; omega
        have HX := Lib.hid (And.intro hv (And.intro hk' (And.intro hf1 (And.intro hd1 hd2))))
        have HV0 := Lib.hid hv0
        have JH := Lib.hid JO.out.hl
        have CC := Lib.hid (fun wx (hx : Below wr.heap.size wr wx) => show (∀ j, wx.cell? ⟨x, j, none⟩ = (ixC b X A B g m)[j]?) ∧ wx.cell? ⟨g, q, none⟩ = some (.int .u32 (v : Int)) from ⟨(MI.out.keep hx).hx.rd, (hx.cell (lt_of_cell k2)).trans k2⟩)
        clear hv hk' hw' hr hk1 hri hfl hf1 hd1 hd2 hv0
        by_cases hle : d2 ≤ d1
        · have t6 : decide (d2 ≤ d1) = true := by simpa using hle
          go_upto_region 5 with (first
            | (go_at_call 53; ((with_reducible refine (CH.out _ (Below.refl _ _)).mono ?_); rintro e w4 ⟨rfl, b4⟩; have B4 := Lib.hid b4; clear b4))
            | (go_at_call 52; first | ((with_reducible refine (CD1.out _ B4.out).mono ?_); rintro e w5 ⟨rfl, rfl⟩) | ((with_reducible refine (CD2.out _ B4.out).mono ?_); rintro e w5 ⟨rfl, rfl⟩)))
          have M4 := Lib.hid (MI.out.keep B4.out)
          have k := M4.out.hx.rd
          have kq : w4.cell? ⟨g, q, none⟩ = some (.int .u32 (v : Int)) := (CC.out _ B4.out).2
          have kh : w4.cell? ⟨g, h, none⟩ = some (.int .u32 0) := by rw [blk_cell M4.out.hg, natC_get _ _ _ (by rw [M4.out.len]; exact JH.out), JO.out.h0]; rfl
          have k0 := M4.out.hg.wr
          have n1 : x ≠ g := M4.out.ne.1
          have n2 : g ≠ x := Ne.symm n1
          have n3 : h ≠ q := Ne.symm QI.out.1
          have t8 : (h : Int) < (m : Int) := by have := JH.out; omega
          go_region
          have hlt4 := lt_of_block M4.out.hg
          rw [setCell_obj M4.out.hg, natC_set, setCell_in hlt4, natC_set0]
          have hll : ((L1.set h v).set q 0).length = m := by rw [List.length_set, List.length_set]; exact M4.out.len
          have M5 := Lib.hid ((M4.out.set ((L1.set h v).set q 0) hll).drewN 1)
          have F5 := Lib.hid (show Fr (fun k => k = g) w (setObj w4 g (.cells (natC .u32 ((L1.set h v).set q 0)) 82 (0, 0))).drew from Fr.drew (Fr.setObj (F := fun k => k = g) (FO.out.trans (Fr.of_below (below_in BI.out B4.out))) rfl _))
          have M5 := Lib.hid (show IxMem (setObj w4 g (.cells (natC .u32 ((L1.set h v).set q 0)) 82 (0, 0))).drew x b X A B g gb gs gf n m fl K ((L1.set h v).set q 0) from M5.out)
          generalize (setObj w4 g (.cells (natC .u32 ((L1.set h v).set q 0)) 82 (0, 0))).drew = w5 at M5 F5 ⊢
          have HLL := Lib.hid hll
          clear k kq kh k0 n1 n2 n3 t8 hll hlt4 k2
          go_wp2
          have hx := HX.out
          have hg : (fun r => ((L1.set h v).set q 0).getD r 0) = Ix.upN (Ix.upN (fun r => L1.getD r 0) h v) q 0 := by
            rw [getD_setN _ _ _ (by rw [List.length_set, MO.out.len]; exact hq), getD_setN _ _ _ (by rw [MO.out.len]; exact JH.out)]
          have hzq : z ≠ q := fun e => HV0.out (by rw [hx.1, ← e]; exact ZO.out.2.2)
          go_roundg (Ix.dst m q z)
          case measure =>
            rw [GO.out]
            have a1 := Ix.dst_or m h z
            have a2 := Ix.dst_or m h q
            have a3 := Ix.dst_or m q z
            have a4 := QI.out.2.2.1
            have a5 := JH.out
            have a6 := ZO.out.2.1
            have a7 := QI.out.1
            omega
          case rel =>
            refine ⟨q, (L1.set h v).set q 0, rfl, M5, Lib.hid ?_, Lib.hid ⟨hzq, ZO.out.2.1, ?_⟩, Lib.hid rfl, F5⟩
            · rw [hg, hx.1]
              exact Ix.jab_move JO.out hq (by show L1.getD q 0 ≠ 0; rw [← hx.1]; exact HV0.out) hx.2.1 (by rw [← hx.2.2.2.2, ← hx.2.2.1, ← hx.2.2.2.1]; exact hle)
            · have := congrFun hg z
              rw [this]
              unfold Ix.upN
              rw [if_neg hzq, if_neg ZO.out.1]
              exact ZO.out.2.2
        · have t6 : decide (d2 ≤ d1) = false := by rw [decide_eq_false_iff_not]; exact hle
          have CA2 := Lib.hid (fun wx (hx : Below wr.heap.size wr wx) => ixafter_any q wx (MI.out.keep hx) hq)
          have hqz : Ix.dst m h q < Ix.dst m h z := by
            have h1 := QI.out.2.2.1
            have h2 : Ix.dst m h q ≠ Ix.dst m h z := fun e => HV0.out (by rw [HX.out.1, Ix.dst_inj JH.out hq ZO.out.2.1 e]; exact ZO.out.2.2)
            omega
          have hzl := Ix.dst_lt JH.out ZO.out.2.1
          have dn := Ix.dst_nxt JH.out hq (show Ix.dst m h q + 1 < m by omega)
          obtain ⟨ny, hny⟩ : ∃ ny, ny = Ix.nxt m q := ⟨_, rfl⟩
          have hnl := Ix.nxt_lt hq
          rw [← hny] at CA2 dn hnl
          have NY := Lib.hid (And.intro dn (And.intro hnl (And.intro hqz hzl)))
          have HLE := Lib.hid hle
          clear dn hnl hqz hzl hny hle
          go_wp2_with (first
            | (go_at_call 53; ((with_reducible refine (CH.out _ (Below.refl _ _)).mono ?_); rintro e w4 ⟨rfl, b4⟩; have B4 := Lib.hid b4; clear b4))
            | (go_at_call 51; ((with_reducible refine (CA2.out _ B4.out).mono ?_); rintro e w6 ⟨rfl, rfl⟩))
            | (go_at_call 52; first | ((with_reducible refine (CD1.out _ B4.out).mono ?_); rintro e w5 ⟨rfl, rfl⟩) | ((with_reducible refine (CD2.out _ B4.out).mono ?_); rintro e w5 ⟨rfl, rfl⟩)))
          have hx := HX.out
          have hqi := QI.out
          have hny := NY.out
          go_roundg (m - Ix.dst m h ny)
          case measure => omega
          case rel =>
            refine ⟨ny, rfl, rfl, hny.2.1, Lib.hid ⟨fun e => ?_, ?_, by omega, rfl⟩, Lib.hid (below_in BI.out B4.out)⟩
            · have h1 := hny.1; rw [e, Ix.dst_self] at h1; omega
            · rw [hny.1]
              exact Ix.past_step JO.out hq hqi.2.1 (by show L1.getD q 0 ≠ 0; rw [← hx.1]; exact HV0.out) hx.2.1 (by rw [← hx.2.2.2.2, ← hx.2.2.1, ← hx.2.2.2.1]; have := HLE.out; omega)
end
end Go.Proofs.Ytnpiimaapholiaa
/- The contracts of layer 5 (index): Find, Put, Remove, New. -/
namespace Go.Proofs.Ytnpiimaapholiaa
set_option linter.unusedSimpArgs false
set_option linter.unusedVariables false
open Go.ChangeShapes Go.WideShapes Go.ChangeAt Go.RowKit
/-- where an index and its store lie, and its function. -/
structure IxN where
  x : Nat
  b : Nat
  X : Nat
  A : Nat
  B : Nat
  g : Nat
  gb : Nat
  gs : Nat
  gf : Nat
  n : Nat
def IxN.h (N : IxN) : ByteArray → Nat := ixH N.X N.A N.B (2 * N.n + 1)
/-- the blocks that calls change. -/
def IxN.F (N : IxN) (k : Nat) : Prop := k = N.g ∨ kyF N.b N.gb N.gs N.gf k
/-- an index, with its keys. -/
def IdxIn (w : World) (N : IxN) (fl : List Nat) (K : Nat → Option ByteArray) : Prop :=
  ∃ L, IxMem w N.x N.b N.X N.A N.B N.g N.gb N.gs N.gf N.n (2 * N.n + 1) fl K L ∧ Ix.Tab (2 * N.n + 1) N.n N.h K (fun q => L.getD q 0)
theorem IdxIn.keep {W w : World} {N : IxN} {fl : List Nat} {K : Nat → Option ByteArray} (h : IdxIn W N fl K) (hb : Below W.heap.size W w) : IdxIn w N fl K := by
  obtain ⟨L, hm, ht⟩ := h
  exact ⟨L, hm.keep hb, ht⟩
theorem IdxIn.ks {w : World} {N : IxN} {fl : List Nat} {K : Nat → Option ByteArray} (h : IdxIn w N fl K) : KeysIn w N.b N.gb N.gs N.gf N.n fl K := by
  obtain ⟨L, hm, ht⟩ := h; exact hm.ks
theorem IdxIn.key {w : World} {N : IxN} {fl : List Nat} {K : Nat → Option ByteArray} (h : IdxIn w N fl K) {i j : Nat} {s : ByteArray} (hi : K i = some s) (hj : K j = some s) : i = j := by
  obtain ⟨L, hm, ht⟩ := h; exact ht.key i j s hi hj
theorem IdxIn.lt {w : World} {N : IxN} {fl : List Nat} {K : Nat → Option ByteArray} (h : IdxIn w N fl K) : ∀ k, (N.F k ∨ k = N.x) → k < w.heap.size := by
  obtain ⟨L, hm, ht⟩ := h
  have h1 := hm.ks.lt
  have h2 := lt_of_block hm.hg
  have h3 := lt_of_block hm.hx
  rintro k ((hk | hk | hk | hk | hk) | hk) <;> omega
/-- nothing that an index stands on is changed. -/
theorem KeysIn.fr {W w : World} {b gb gs gf n : Nat} {fl : List Nat} {K : Nat → Option ByteArray} {F : Nat → Prop} (h : KeysIn W b gb gs gf n fl K) (hf : Fr F W w) (h1 : ¬ F b) (h2 : ¬ F gb) (h3 : ¬ F gs) (h4 : ¬ F gf) : KeysIn w b gb gs gf n fl K := by
  obtain ⟨bs, ss, fs, h⟩ := h
  exact ⟨bs, ss, fs, h.hb.fr hf h1, h.hgb.fr hf h2, h.hgs.fr hf h3, h.hgf.fr hf h4, h.lb, h.ls, h.lf, h.vs, h.vf, h.vb, h.pl, h.n1, h.ne⟩
theorem IdxIn.fr {W w : World} {N : IxN} {fl : List Nat} {K : Nat → Option ByteArray} {F : Nat → Prop} (h : IdxIn W N fl K) (hf : Fr F W w) (h1 : ∀ k, (N.F k ∨ k = N.x) → ¬ F k) : IdxIn w N fl K := by
  obtain ⟨L, hm, ht⟩ := h
  exact ⟨L, ⟨hm.hx.fr hf (h1 _ (Or.inr rfl)), hm.hg.fr hf (h1 _ (Or.inl (Or.inl rfl))), hm.len, hm.sz, hm.ks.fr hf (h1 _ (Or.inl (Or.inr (Or.inl rfl)))) (h1 _ (Or.inl (Or.inr (Or.inr (Or.inl rfl))))) (h1 _ (Or.inl (Or.inr (Or.inr (Or.inr (Or.inl rfl)))))) (h1 _ (Or.inl (Or.inr (Or.inr (Or.inr (Or.inr rfl)))))), hm.lX, hm.lA, hm.lB, hm.ne⟩, ht⟩
section
variable {N : IxN} {fl : List Nat} {K : Nat → Option ByteArray}
set_option maxHeartbeats 1000000 in
theorem ixfind_yes (i : Nat) (s : ByteArray) (hs : s.size ≤ maxLen) (w : World) (h : IdxIn w N fl K) (hk : K i = some s) :
    Calls Try.prog 40 #[.pointer (some ⟨N.x, 0, none⟩), .string s] w fun e w' => e = .returned (.int .i64 (i : Int)) ∧ Below w.heap.size w w' := by
  obtain ⟨L, h, t⟩ := h
  have C1 := Lib.hid (ixseek_yes i s hs hk w h t)
  have hn := h.ks.pl.2.1
  have hi := t.lt i s hk
  obtain ⟨m, hm⟩ : ∃ m, m = 2 * N.n + 1 := ⟨_, rfl⟩
  rw [← hm] at h C1
  have HH := Lib.hid h
  have t0 : (m : Int) ≤ 131073 := by omega
  have t1 : (i : Int) ≤ 65536 := by omega
  clear h t hs hk hn hi hm
  go_enter Try.func40, Try.ntmps40
  go_wp2_with (fail)
  refine C1.out.mono ?_
  rintro e w1 ⟨p, rfl, hp, hT, hb⟩
  obtain ⟨v, hv⟩ : ∃ v, v = i + 1 := ⟨_, rfl⟩
  have M1 := Lib.hid (HH.out.keep hb)
  have k := M1.out.hx.rd
  have k2 : w1.cell? ⟨N.g, p, none⟩ = some (.int .u32 (v : Int)) := by rw [blk_cell M1.out.hg, natC_get _ _ _ (by rw [M1.out.len]; exact hp), hT, hv]
  have t3 : (p : Int) < (m : Int) := by omega
  have e1 : IntKind.i64.wrap (v : Int) = (v : Int) := by rw [IntKind.wrap_i64]; omega
  have e2 : (v : Int) - 1 = (i : Int) := by omega
  have t4 : (v : Int) ≤ 65537 := by omega
  clear hT hv
  go_wp2
  go_ret
  exact ⟨rfl, hb⟩
theorem ixfind_no (s : ByteArray) (hs : s.size ≤ maxLen) (w : World) (h : IdxIn w N fl K) (hk : ∀ i, K i ≠ some s) :
    Calls Try.prog 40 #[.pointer (some ⟨N.x, 0, none⟩), .string s] w fun e w' => e = .returned (.int .i64 (-1)) ∧ Below w.heap.size w w' := by
  obtain ⟨L, h, t⟩ := h
  have C1 := Lib.hid (ixseek_no s hs hk w h t)
  clear h t hs hk
  go_enter Try.func40, Try.ntmps40
  go_wp2_with (fail)
  refine C1.out.mono ?_
  rintro e w1 ⟨p, rfl, hp, hb⟩
  clear hp
  go_wp2
  go_ret
  exact ⟨rfl, hb⟩
theorem ixput_has (i : Nat) (s : ByteArray) (hs : s.size ≤ maxLen) (w : World) (h : IdxIn w N fl K) (hk : K i = some s) :
    Calls Try.prog 41 #[.pointer (some ⟨N.x, 0, none⟩), .string s] w fun e w' => e = .returned (.int .i64 (-1)) ∧ Below w.heap.size w w' := by
  obtain ⟨L, h, t⟩ := h
  have C1 := Lib.hid (ixseek_yes i s hs hk w h t)
  clear h t hs hk
  go_enter Try.func41, Try.ntmps41
  go_wp2_with (fail)
  refine C1.out.mono ?_
  rintro e w1 ⟨p, rfl, hp, hT, hb⟩
  clear hp hT
  go_wp2
  go_ret
  exact ⟨rfl, hb⟩
set_option maxHeartbeats 1000000 in
theorem ixput_full (s : ByteArray) (hs : s.size ≤ maxLen) (w : World) (h : IdxIn w N fl K) (hk : ∀ i, K i ≠ some s) (hf : 64 < s.size ∨ fl = []) :
    Calls Try.prog 41 #[.pointer (some ⟨N.x, 0, none⟩), .string s] w fun e w' => e = .returned (.int .i64 (-1)) ∧ Below w.heap.size w w' := by
  obtain ⟨L, h, t⟩ := h
  have C1 := Lib.hid (ixseek_no s hs hk w h t)
  have C2 := Lib.hid (fun wx (hx : Below w.heap.size w wx) => put_no s wx (h.ks.keep hx) hf)
  have HH := Lib.hid h
  clear h t hs hk hf
  go_enter Try.func41, Try.ntmps41
  go_wp2_with (fail)
  refine C1.out.mono ?_
  rintro e w1 ⟨p, rfl, hp, hb⟩
  have k := (HH.out.keep hb).hx.rd
  have t3 : decide ((p : Int) < 0) = false := by rw [decide_eq_false_iff_not]; omega
  clear hp
  go_wp2_with (go_at_call 46; ((with_reducible refine (C2.out _ hb).mono ?_); rintro e w3 ⟨rfl, rfl⟩))
  go_ret
  exact ⟨rfl, hb⟩
set_option maxHeartbeats 2000000 in
theorem ixput_yes (i : Nat) (s : ByteArray) (w : World) (h : IdxIn w N (fl ++ [i]) K) (hk : ∀ i, K i ≠ some s) (hs : s.size ≤ 64) :
    Calls Try.prog 41 #[.pointer (some ⟨N.x, 0, none⟩), .string s] w fun e w' => e = .returned (.int .i64 (i : Int)) ∧ IdxIn w' N fl (fun j => if j = i then some s else K j) ∧ Fr N.F w w' := by
  obtain ⟨L, h, t⟩ := h
  have C1 := Lib.hid (ixseek_no s (by unfold maxLen; omega) hk w h t)
  have C2 := Lib.hid (fun wx (hx : Below w.heap.size w wx) => put_yes i s wx (h.ks.keep hx) hs)
  have hfr := h.ks.pl.1.free (i := i) (by simp)
  have hn := h.ks.pl.2.1
  obtain ⟨m, hm⟩ : ∃ m, m = 2 * N.n + 1 := ⟨_, rfl⟩
  have t0 : (m : Int) ≤ 131073 := by omega
  have HI := Lib.hid hfr
  have hh : N.h = ixH N.X N.A N.B m := by unfold IxN.h; rw [hm]
  rw [← hm] at h t C1
  rw [hh] at t
  have HH := Lib.hid h
  have TT := Lib.hid t
  have HM := Lib.hid (And.intro hm hh)
  have t1 : (i : Int) ≤ 65536 := by omega
  clear h t hk hs hfr hn hm hh
  go_enter Try.func41, Try.ntmps41
  go_wp2_with (fail)
  refine C1.out.mono ?_
  rintro e w1 ⟨p, rfl, ⟨hp, hT, hfar⟩, hb⟩
  have k := (HH.out.keep hb).hx.rd
  have t3 : decide ((p : Int) < 0) = false := by rw [decide_eq_false_iff_not]; omega
  have FA := Lib.hid (And.intro hT hfar)
  have B1 := Lib.hid hb
  have HP := Lib.hid hp
  have t5 : (p : Int) < (m : Int) := by omega
  clear hT hfar hb hp
  go_upto_region 6 with (go_at_call 46; ((with_reducible refine (C2.out _ B1.out).mono ?_); rintro e w3 ⟨rfl, hk3, hf3⟩; have K3 := Lib.hid hk3; have F3 := Lib.hid hf3; clear hk3 hf3))
  have ne := HH.out.ne
  have M1 := HH.out.keep B1.out
  have M3 : IxMem w3 N.x N.b N.X N.A N.B N.g N.gb N.gs N.gf N.n m fl (fun j => if j = i then some s else K j) L :=
    ⟨M1.hx.fr F3.out (by rintro (e | e | e | e) <;> omega), M1.hg.fr F3.out (by rintro (e | e | e | e) <;> omega), M1.len, M1.sz, K3.out, M1.lX, M1.lA, M1.lB, ne⟩
  have MM := Lib.hid M3
  clear k M1 M3 ne
  have k := MM.out.hx.rd
  have k2 : w3.cell? ⟨N.g, p, none⟩ = some (.int .u32 0) := by rw [blk_cell MM.out.hg, natC_get _ _ _ (by rw [MM.out.len]; exact HP.out), FA.out.1]; rfl
  have k0 := MM.out.hg.wr
  obtain ⟨v, hv⟩ : ∃ v, v = i + 1 := ⟨_, rfl⟩
  have e1 : (i : Int) + 1 = (v : Int) := by omega
  have e2 : IntKind.u32.wrap (v : Int) = (v : Int) := by rw [IntKind.wrap_u32]; omega
  have HV := Lib.hid hv
  clear hv
  go_wp2
  go_ret
  have hll : (L.set p v).length = m := by rw [List.length_set]; exact MM.out.len
  rw [setCell_obj MM.out.hg, natC_set]
  refine ⟨rfl, ⟨L.set p v, ?_, ?_⟩, ?_⟩
  · rw [← HM.out.1]; exact MM.out.set _ hll
  · rw [getD_setN _ _ _ (by rw [MM.out.len]; exact HP.out), HV.out, ← HM.out.1, HM.out.2]
    exact Ix.tab_put TT.out HP.out FA.out.2 FA.out.1 HI.out.1 HI.out.2
  · exact Fr.setObj (F := N.F) (((Fr.of_below B1.out).trans F3.out).mono (fun k hk => Or.inr hk)) (Or.inl rfl) _
theorem ixremove_no (s : ByteArray) (hs : s.size ≤ maxLen) (w : World) (h : IdxIn w N fl K) (hk : ∀ i, K i ≠ some s) :
    Calls Try.prog 44 #[.pointer (some ⟨N.x, 0, none⟩), .string s] w fun e w' => e = .returned (.int .i64 (-1)) ∧ Below w.heap.size w w' := by
  obtain ⟨L, h, t⟩ := h
  have C1 := Lib.hid (ixseek_no s hs hk w h t)
  clear h t hs hk
  go_enter Try.func44, Try.ntmps44
  go_wp2_with (fail)
  refine C1.out.mono ?_
  rintro e w1 ⟨p, rfl, hp, hb⟩
  clear hp
  go_wp2
  go_ret
  exact ⟨rfl, hb⟩
set_option maxHeartbeats 2000000 in
theorem ixremove_yes (i : Nat) (s : ByteArray) (hs : s.size ≤ maxLen) (w : World) (h : IdxIn w N fl K) (hk : K i = some s) :
    Calls Try.prog 44 #[.pointer (some ⟨N.x, 0, none⟩), .string s] w fun e w' => e = .returned (.int .i64 (i : Int)) ∧ IdxIn w' N (fl ++ [i]) (fun j => if j = i then none else K j) ∧ Fr N.F w w' := by
  obtain ⟨L, h, t⟩ := h
  have C1 := Lib.hid (ixseek_yes i s hs hk w h t)
  have hn := h.ks.pl.2.1
  have hi := t.lt i s hk
  have t1 : (i : Int) ≤ 65536 := by omega
  obtain ⟨m, hm⟩ : ∃ m, m = 2 * N.n + 1 := ⟨_, rfl⟩
  have t0 : (m : Int) ≤ 131073 := by omega
  have hh : N.h = ixH N.X N.A N.B m := by unfold IxN.h; rw [hm]
  rw [← hm] at h t C1
  rw [hh] at t
  have HH := Lib.hid h
  have TT := Lib.hid t
  have HM := Lib.hid (And.intro hm hh)
  have HK := Lib.hid hk
  clear h t hs hk hn hi hm hh
  go_enter Try.func44, Try.ntmps44
  go_wp2_with (fail)
  refine C1.out.mono ?_
  rintro e w1 ⟨p, rfl, hp, hT, hb⟩
  obtain ⟨v, hv⟩ : ∃ v, v = i + 1 := ⟨_, rfl⟩
  have M1 := Lib.hid (HH.out.keep hb)
  have k := M1.out.hx.rd
  have k2 : w1.cell? ⟨N.g, p, none⟩ = some (.int .u32 (v : Int)) := by rw [blk_cell M1.out.hg, natC_get _ _ _ (by rw [M1.out.len]; exact hp), hT, hv]
  have t3 : (p : Int) < (m : Int) := by omega
  have e1 : IntKind.i64.wrap (v : Int) = (v : Int) := by rw [IntKind.wrap_i64]; omega
  have e2 : (v : Int) - 1 = (i : Int) := by omega
  have t4 : (v : Int) ≤ 65537 := by omega
  have CE := Lib.hid (ixempty_any i p s w1 M1.out TT.out hp hT HK.out)
  have B1 := Lib.hid hb
  clear hT hv hb hp
  go_upto_region 6 with (go_at_call 47; ((with_reducible refine CE.out.mono ?_); rintro e w2 ⟨rfl, L', hm2, ht2, hf2⟩; have M2 := Lib.hid hm2; have T2 := Lib.hid ht2; have F2 := Lib.hid hf2; clear hm2 ht2 hf2))
  clear k k2
  have k := M2.out.hx.rd
  have CF := Lib.hid (free_yes i w2 M2.out.ks (by rw [HK.out]; rfl))
  go_wp2_with (go_at_call 48; ((with_reducible refine CF.out.mono ?_); rintro e w3 ⟨rfl, hk3, hf3⟩; have K3 := Lib.hid hk3; have F3 := Lib.hid hf3; clear hk3 hf3))
  go_ret
  have ne := HH.out.ne
  have M3 := M2.out
  refine ⟨rfl, ⟨L', ?_, ?_⟩, ?_⟩
  · rw [← HM.out.1]
    exact ⟨M3.hx.fr F3.out (by rintro (e | e | e | e) <;> omega), M3.hg.fr F3.out (by rintro (e | e | e | e) <;> omega), M3.len, M3.sz, K3.out, M3.lX, M3.lA, M3.lB, ne⟩
  · rw [← HM.out.1, HM.out.2]; exact T2.out
  · exact (((Fr.of_below B1.out).trans (F2.out.mono (fun k hk => Or.inl hk)))).trans (F3.out.mono (fun k hk => Or.inr hk))
end
/-! #### none -/
theorem ixfind_nil (s : ByteArray) (w : World) : Calls Try.prog 40 #[.pointer none, .string s] w fun e w' => e = .returned (.int .i64 (-1)) ∧ w = w' := by
  go_enter Try.func40, Try.ntmps40
  go_wp2_with (go_at_call 45; ((with_reducible refine (ixseek_nil _ _).mono ?_); rintro e w' ⟨rfl, rfl⟩))
  go_ret
  exact ⟨rfl, rfl⟩
theorem ixput_nil (s : ByteArray) (w : World) : Calls Try.prog 41 #[.pointer none, .string s] w fun e w' => e = .returned (.int .i64 (-1)) ∧ w = w' := by
  go_enter Try.func41, Try.ntmps41
  go_wp2_with (go_at_call 45; ((with_reducible refine (ixseek_nil _ _).mono ?_); rintro e w' ⟨rfl, rfl⟩))
  go_ret
  exact ⟨rfl, rfl⟩
theorem ixremove_nil (s : ByteArray) (w : World) : Calls Try.prog 44 #[.pointer none, .string s] w fun e w' => e = .returned (.int .i64 (-1)) ∧ w = w' := by
  go_enter Try.func44, Try.ntmps44
  go_wp2_with (go_at_call 45; ((with_reducible refine (ixseek_nil _ _).mono ?_); rintro e w' ⟨rfl, rfl⟩))
  go_ret
  exact ⟨rfl, rfl⟩
theorem ixsize_any (n : Nat) (hn : n ≤ 65536) (w : World) : Calls Try.prog 36 #[.int .i64 (n : Int)] w fun e w' => e = .returned (.int .i64 ((2 * n + 1 : Nat) : Int)) ∧ w = w' := by
  have t1 : (n : Int) ≤ 65536 := by omega
  go_enter Try.func36, Try.ntmps36
  go_wp2
  go_ret
  exact ⟨ret_i (by omega), rfl⟩
theorem ixbytes_any (n : Nat) (hn : n ≤ 65536) (w : World) : Calls Try.prog 35 #[.int .i64 (n : Int)] w fun e w' => e = .returned (.int .i64 (4 * ((2 * n + 1 : Nat) : Int))) ∧ w = w' := by
  have C := Lib.hid (fun w => ixsize_any n hn w)
  obtain ⟨v, hv⟩ : ∃ v, v = 2 * n + 1 := ⟨_, rfl⟩
  rw [← hv] at C ⊢
  have t1 : (v : Int) ≤ 131073 := by omega
  have e1 : IntKind.i64.wrap (v : Int) = (v : Int) := by rw [IntKind.wrap_i64]; omega
  clear hv hn
  go_enter Try.func35, Try.ntmps35
  go_wp2_with (go_at_call 36; ((with_reducible refine (C.out _).mono ?_); rintro e w' ⟨rfl, rfl⟩))
  go_ret
  exact ⟨ret_i (by omega), rfl⟩
theorem ixnew_nil (X A B : Nat) (w : World) : Calls Try.prog 26 #[.pointer none, .agg #[.int .u64 X, .int .u64 A, .int .u64 B]] w fun e w' => e = .returned (.pointer none) ∧ Below w.heap.size w w' := by
  go_enter Try.func26, Try.ntmps26
  go_wp2
  go_ret
  exact ⟨rfl, (Below.refl _ _).alloc (Nat.le_refl _) _⟩
theorem hold_alloc {W1 : World} {rb : Nat} {t : TypeId} {C : Array Value} (h : Blk W1 rb t C) (o : Obj) : (∀ j, (W1.alloc o).drew.cell? ⟨rb, j, none⟩ = C[j]?) ∧ Below W1.heap.size W1 (W1.alloc o).drew :=
  ⟨((h.alloc o).drew).rd, below_draws ((Below.refl _ _).alloc (Nat.le_refl _) _) 1⟩
theorem hold_alloc2 {W1 : World} {rb : Nat} {t : TypeId} {C : Array Value} (h : Blk W1 rb t C) (o o' : Obj) : (∀ j, ((W1.alloc o).alloc o').drew.cell? ⟨rb, j, none⟩ = C[j]?) ∧ Below W1.heap.size W1 ((W1.alloc o).alloc o').drew :=
  ⟨(((h.alloc o).alloc o').drew).rd, below_draws (((Below.refl _ _).alloc (Nat.le_refl _) _).alloc (by simp) _) 1⟩
theorem info_u32 : (Try.prog.info? 82).map (fun i => (i.zero, i.size, i.bytes)) = some (some (.int .u32 0), 1, 4) := by kernel_rfl
theorem natC_zero (k : IntKind) (n : Nat) : numC k (List.replicate n 0) = natC k (List.replicate n 0) := by simp [numC, natC]
set_option maxHeartbeats 2000000 in
theorem ixnew_any (X A B : Nat) (hX : X < 2305843009213693951) (hA : A < 2305843009213693951) (hB : B < 2305843009213693951) (b gb gs gf n : Nat) (fl : List Nat) (w : World) (h : KeysIn w b gb gs gf n fl (fun _ => none)) :
    Calls Try.prog 26 #[.pointer (some ⟨b, 0, none⟩), .agg #[.int .u64 X, .int .u64 A, .int .u64 B]] w fun e w' => ∃ x g, e = .returned (.pointer (some ⟨x, 0, none⟩)) ∧ IdxIn w' ⟨x, b, X, A, B, g, gb, gs, gf, n⟩ fl (fun _ => none) ∧ Below w.heap.size w w' ∧ w.heap.size ≤ x ∧ w.heap.size ≤ g := by
  have hn := h.pl.2.1
  obtain ⟨m, hm⟩ : ∃ m, m = 2 * n + 1 := ⟨_, rfl⟩
  obtain ⟨i0, hi, hz0, hz1, hz2⟩ := info_parts info_u32
  have hmk := make_num (P := Try.prog) (t := 79) (e := 82) Try.underlying79 hi hz0 hz1 hz2 m (by omega) (by omega)
  have t0 : (m : Int) ≤ 131073 := by omega
  have CS := Lib.hid (fun w => ixsize_any n hn w)
  rw [← hm] at CS
  have HH := Lib.hid h
  have HM := Lib.hid (And.intro hm hn)
  clear hi hz0 hz1 hz2 h hn hm
  go_enter Try.func26, Try.ntmps26
  go_upto_region 3 with (fail)
  obtain ⟨w1, hw1, hbk, hbl, hsz⟩ := box_new w #[.int .u64 (X : Int), .int .u64 (A : Int), .int .u64 (B : Int)] 30
  rw [hw1]
  have CL := Lib.hid (fun wx (hx : Below w1.heap.size w1 wx) => len_any wx ((HH.out.keep hbl).keep hx))
  obtain ⟨rb, hrb⟩ : ∃ rb, rb = w.heap.size := ⟨_, rfl⟩
  rw [← hrb] at hbk ⊢
  have k := hbk.rd
  have HB := Lib.hid hbl
  have HS := Lib.hid (And.intro hsz hrb)
  have BK := Lib.hid hbk
  clear hbk hbl hsz hw1 hrb
  have y1 : ∀ j, w1.drew.cell? ⟨rb, j, none⟩ = (#[.int .u64 (X : Int), .int .u64 (A : Int), .int .u64 (B : Int)] : Array Value)[j]? := k
  have y2 : Below w1.heap.size w1 w1.drew := below_draws (Below.refl _ _) 1
  clear k
  go_region_held3 (fun w' => (∀ j, w'.cell? ⟨rb, j, none⟩ = (#[.int .u64 (X : Int), .int .u64 (A : Int), .int .u64 (B : Int)] : Array Value)[j]?) ∧ Below w1.heap.size w1 w') (first | (refine ⟨?_, ?_⟩ <;> assumption) | exact hold_alloc BK.out _ | exact hold_alloc2 BK.out _ _)
    (first
      | (go_at_call 32; ((with_reducible refine (CL.out _ (by assumption)).mono ?_); rintro e w2 ⟨rfl, rfl⟩))
      | (go_at_call 36; ((with_reducible refine (CS.out _).mono ?_); rintro e w3 ⟨rfl, rfl⟩)))
  go_wp2
  go_ret
  obtain ⟨w2, hw2, b2k, b2l, s2⟩ := box_new w1 (numC .u32 (List.replicate m 0)) 82
  rw [hw2]
  obtain ⟨w3, hw3, b3k, b3l, s3⟩ := box_new w2 (ixC b X A B w1.heap.size m) 85
  refine ⟨w1.heap.size + 1, w1.heap.size, rfl, ?_⟩
  have e3 : w2.alloc (.cells #[.pointer (some ⟨b, 0, none⟩), .int .u64 (X : Int), .int .u64 (A : Int), .int .u64 (B : Int), .slice (some ⟨w1.heap.size, 0, none⟩) m m] 85) = w3 := hw3
  rw [e3]
  have hlt := HH.out.lt
  have hs := HS.out
  have bb := HB.out
  have bs := bb.size
  have l1 := below_in (below_in bb b2l) b3l
  have l2 : Below w.heap.size w w3.drew := below_draws l1 1
  have hm := HM.out.1
  refine ⟨⟨List.replicate m 0, ⟨?_, ?_, ?_, rfl, HH.out.keep l2, hX, hA, hB, ?_⟩, ?_⟩, l2, by omega, by omega⟩
  · rw [s2] at b3k
    rw [← hm]
    exact b3k
  · have := b2k.keep b3l
    rw [natC_zero] at this
    exact this
  · rw [List.length_replicate]; exact hm
  · show (w1.heap.size + 1 ≠ w1.heap.size ∧ w1.heap.size + 1 ≠ b ∧ w1.heap.size + 1 ≠ gb ∧ w1.heap.size + 1 ≠ gs ∧ w1.heap.size + 1 ≠ gf ∧ w1.heap.size ≠ b ∧ w1.heap.size ≠ gb ∧ w1.heap.size ≠ gs ∧ w1.heap.size ≠ gf)
    omega
  · have e : (fun q => (List.replicate m 0).getD q 0) = fun _ => 0 := by
      funext q
      simp only [List.getD]
      by_cases hq : q < m
      · simp [hq]
      · simp [hq]
    rw [e]
    exact Ix.tab_new n _ (fun s => ixH_lt X A B (by omega) s)
end Go.Proofs.Ytnpiimaapholiaa
/- The contracts of layer 5 (index), over what an index has: one for each call, whatever its way. -/
namespace Go.Proofs.Ytnpiimaapholiaa
set_option linter.unusedSimpArgs false
set_option linter.unusedVariables false
open Go.ChangeShapes Go.WideShapes Go.ChangeAt Go.RowKit
/-- where a key is. -/
def posN (n : Nat) (K : Nat → Option ByteArray) (s : ByteArray) : Option Nat := (List.range n).find? (fun i => decide (K i = some s))
theorem posN_some {n : Nat} {K : Nat → Option ByteArray} {s : ByteArray} {i : Nat} (h : posN n K s = some i) : i < n ∧ K i = some s := by
  unfold posN at h
  have h1 := List.find?_some h
  have h2 := List.mem_of_find?_eq_some h
  exact ⟨List.mem_range.1 h2, of_decide_eq_true h1⟩
theorem posN_none {n : Nat} {K : Nat → Option ByteArray} {s : ByteArray} (h : posN n K s = none) (i : Nat) (hi : i < n) : K i ≠ some s := by
  unfold posN at h
  rw [List.find?_eq_none] at h
  exact fun e => h i (List.mem_range.2 hi) (decide_eq_true e)
theorem posN_at {n : Nat} {K : Nat → Option ByteArray} {s : ByteArray} {i : Nat} (hi : i < n) (h : K i = some s) (hu : ∀ i j s, K i = some s → K j = some s → i = j) : posN n K s = some i := by
  cases hp : posN n K s with
  | none => exact absurd h (posN_none hp i hi)
  | some j => rw [hu j i s (posN_some hp).2 h]
theorem posN_no {n : Nat} {K : Nat → Option ByteArray} {s : ByteArray} (h : ∀ i, i < n → K i ≠ some s) : posN n K s = none := by
  cases hp : posN n K s with
  | none => rfl
  | some j => exact absurd (posN_some hp).2 (h j (posN_some hp).1)
/-- an answer: a place, or -1. -/
def plZ : Option Nat → Int
  | some i => (i : Int)
  | none => -1
/-- what a store has: which places are free, in which order, and the keys of the others. -/
structure KSt where
  fl : List Nat
  K : Nat → Option ByteArray
def KSt.put (n : Nat) (σ : KSt) (s : ByteArray) : KSt × Option Nat :=
  match posN n σ.K s with
  | some _ => (σ, none)
  | none => if 64 < s.size then (σ, none) else
    match σ.fl.getLast? with
    | none => (σ, none)
    | some i => (⟨σ.fl.dropLast, fun j => if j = i then some s else σ.K j⟩, some i)
def KSt.del (n : Nat) (σ : KSt) (s : ByteArray) : KSt × Option Nat :=
  match posN n σ.K s with
  | some i => (⟨σ.fl ++ [i], fun j => if j = i then none else σ.K j⟩, some i)
  | none => (σ, none)
def kNew (n : Nat) : KSt := ⟨(List.range n).reverse, fun _ => none⟩
abbrev IdxAt (w : World) (N : IxN) (σ : KSt) : Prop := IdxIn w N σ.fl σ.K
theorem IdxIn.uni {w : World} {N : IxN} {fl : List Nat} {K : Nat → Option ByteArray} (h : IdxIn w N fl K) : (∀ i j s, K i = some s → K j = some s → i = j) ∧ (∀ i s, K i = some s → i < N.n ∧ s.size ≤ 64) ∧ N.n ≤ 65536 ∧ Places N.n fl K := by
  obtain ⟨L, hm, ht⟩ := h
  exact ⟨ht.key, fun i s hi => ⟨ht.lt i s hi, hm.ks.pl.2.2 i s hi⟩, hm.ks.pl.2.1, hm.ks.pl.1⟩
theorem IdxIn.no {w : World} {N : IxN} {fl : List Nat} {K : Nat → Option ByteArray} (h : IdxIn w N fl K) {s : ByteArray} (hp : posN N.n K s = none) (i : Nat) : K i ≠ some s := fun e => posN_none hp i (h.uni.2.1 i s e).1 e
section
variable {N : IxN} {σ : KSt}
theorem ixfind_any (s : ByteArray) (hs : s.size ≤ maxLen) (w : World) (h : IdxAt w N σ) :
    Calls Try.prog 40 #[.pointer (some ⟨N.x, 0, none⟩), .string s] w fun e w' => e = .returned (.int .i64 (plZ (posN N.n σ.K s))) ∧ Below w.heap.size w w' := by
  cases hp : posN N.n σ.K s with
  | some i => exact ixfind_yes i s hs w h (posN_some hp).2
  | none => exact ixfind_no s hs w h (h.no hp)
theorem ixput_any (s : ByteArray) (hs : s.size ≤ maxLen) (w : World) (h : IdxAt w N σ) :
    Calls Try.prog 41 #[.pointer (some ⟨N.x, 0, none⟩), .string s] w fun e w' => e = .returned (.int .i64 (plZ (σ.put N.n s).2)) ∧ IdxAt w' N (σ.put N.n s).1 ∧ Fr N.F w w' := by
  unfold KSt.put
  cases hp : posN N.n σ.K s with
  | some i => exact (ixput_has i s hs w h (posN_some hp).2).mono (fun e w' hh => ⟨hh.1, h.keep hh.2, Fr.of_below hh.2⟩)
  | none =>
    by_cases h64 : 64 < s.size
    · simp only [if_pos h64]
      exact (ixput_full s hs w h (h.no hp) (Or.inl h64)).mono (fun e w' hh => ⟨hh.1, h.keep hh.2, Fr.of_below hh.2⟩)
    · simp only [if_neg h64]
      cases hl : σ.fl.getLast? with
      | none => exact (ixput_full s hs w h (h.no hp) (Or.inr (List.getLast?_eq_none_iff.1 hl))).mono (fun e w' hh => ⟨hh.1, h.keep hh.2, Fr.of_below hh.2⟩)
      | some i =>
        have hfl : σ.fl = σ.fl.dropLast ++ [i] := by
          obtain ⟨l, hl'⟩ := List.getLast?_eq_some_iff.1 hl
          rw [hl']; simp
        have h' : IdxIn w N (σ.fl.dropLast ++ [i]) σ.K := by rw [← hfl]; exact h
        exact ixput_yes i s w h' (h.no hp) (by omega)
theorem ixremove_any (s : ByteArray) (hs : s.size ≤ maxLen) (w : World) (h : IdxAt w N σ) :
    Calls Try.prog 44 #[.pointer (some ⟨N.x, 0, none⟩), .string s] w fun e w' => e = .returned (.int .i64 (plZ (σ.del N.n s).2)) ∧ IdxAt w' N (σ.del N.n s).1 ∧ Fr N.F w w' := by
  unfold KSt.del
  cases hp : posN N.n σ.K s with
  | some i => exact ixremove_yes i s hs w h (posN_some hp).2
  | none => exact (ixremove_no s hs w h (h.no hp)).mono (fun e w' hh => ⟨hh.1, h.keep hh.2, Fr.of_below hh.2⟩)
theorem KSt.put_lt (w : World) (h : IdxAt w N σ) (s : ByteArray) {i : Nat} (hi : (σ.put N.n s).2 = some i) : i < N.n := by
  unfold KSt.put at hi
  have hu := h.uni.2.2.2
  split at hi
  · cases hi
  · split at hi
    · cases hi
    · split at hi
      · cases hi
      · rename_i j hj
        have hij : j = i := Option.some.inj hi
        obtain ⟨l, hl⟩ := List.getLast?_eq_some_iff.1 hj
        exact (hu.free (i := i) (by rw [hl]; simp [hij])).1
theorem KSt.del_lt (n : Nat) (s : ByteArray) {i : Nat} (hi : (σ.del n s).2 = some i) : i < n := by
  unfold KSt.del at hi
  split at hi
  · rename_i j hj
    have hij : j = i := Option.some.inj hi
    rw [← hij]; exact (posN_some hj).1
  · cases hi
/-- a new index of a new store. -/
theorem ixnew_st (X A B : Nat) (hX : X < 2305843009213693951) (hA : A < 2305843009213693951) (hB : B < 2305843009213693951) (b gb gs gf n : Nat) (w : World) (h : KeysIn w b gb gs gf n (kNew n).fl (fun _ => none)) :
    Calls Try.prog 26 #[.pointer (some ⟨b, 0, none⟩), .agg #[.int .u64 X, .int .u64 A, .int .u64 B]] w fun e w' => ∃ x g, e = .returned (.pointer (some ⟨x, 0, none⟩)) ∧ IdxAt w' ⟨x, b, X, A, B, g, gb, gs, gf, n⟩ (kNew n) ∧ Below w.heap.size w w' ∧ w.heap.size ≤ x ∧ w.heap.size ≤ g :=
  ixnew_any X A B hX hA hB b gb gs gf n _ w h
end
end Go.Proofs.Ytnpiimaapholiaa
/- What a map of places keeps beside an index. -/
namespace Go.Proofs.Ytnpiimaapholiaa
set_option linter.unusedSimpArgs false
set_option linter.unusedVariables false
open Go.ChangeShapes Go.WideShapes Go.ChangeAt Go.RowKit
/-- where keys are, as a map's elements. -/
def KM (n : Nat) (K : Nat → Option ByteArray) : ByteArray → Option Value := fun s => (posN n K s).map fun i : Nat => .int .i64 (i : Int)
theorem KM_new (n : Nat) : KM n (fun _ => none) = fun _ => none := by
  funext s; unfold KM; rw [posN_no (fun i _ h => by cases h)]; rfl
theorem KM_some {n : Nat} {K : Nat → Option ByteArray} {s : ByteArray} {v : Value} (h : KM n K s = some v) : ∃ i, posN n K s = some i ∧ v = .int .i64 (i : Int) := by
  unfold KM at h
  cases hp : posN n K s with
  | none => rw [hp] at h; cases h
  | some i => rw [hp] at h; exact ⟨i, rfl, (Option.some.inj h).symm⟩
theorem posN_upd {n i : Nat} {K : Nat → Option ByteArray} {s : ByteArray} (hi : i < n) (hk : K i = none) (hs : ∀ j, K j ≠ some s) (x : ByteArray) : posN n (fun j => if j = i then some s else K j) x = if x = s then some i else posN n K x := by
  by_cases e : x = s
  · subst e
    rw [if_pos rfl]
    cases hp : posN n (fun j => if j = i then some x else K j) x with
    | none => exact absurd (by simp) (posN_none hp i hi)
    | some j =>
      have h2 : (if j = i then some x else K j) = some x := (posN_some hp).2
      by_cases hj : j = i
      · rw [hj]
      · rw [if_neg hj] at h2; exact absurd h2 (hs j)
  · rw [if_neg e]
    unfold posN
    congr 1
    funext j
    by_cases hj : j = i
    · subst hj
      simp [hk, Ne.symm e]
    · simp [hj]
theorem posN_cut {n i : Nat} {K : Nat → Option ByteArray} {s : ByteArray} (hk : K i = some s) (hu : ∀ i j s, K i = some s → K j = some s → i = j) (x : ByteArray) : posN n (fun j => if j = i then none else K j) x = if x = s then none else posN n K x := by
  by_cases e : x = s
  · subst e
    rw [if_pos rfl]
    refine posN_no (fun j _ h => ?_)
    have h : (if j = i then none else K j) = some x := h
    by_cases hj : j = i
    · rw [if_pos hj] at h; cases h
    · rw [if_neg hj] at h; exact hj (hu j i x h hk)
  · rw [if_neg e]
    unfold posN
    congr 1
    funext j
    by_cases hj : j = i
    · subst hj
      simp [hk, Ne.symm e]
    · simp [hj]
theorem KM_upd {n i : Nat} {K : Nat → Option ByteArray} {s : ByteArray} (hi : i < n) (hk : K i = none) (hs : ∀ j, K j ≠ some s) : KM n (fun j => if j = i then some s else K j) = fun x => if x = s then some (.int .i64 (i : Int)) else KM n K x := by
  funext x
  unfold KM
  rw [posN_upd hi hk hs]
  split <;> rfl
theorem KM_cut {n i : Nat} {K : Nat → Option ByteArray} {s : ByteArray} (hk : K i = some s) (hu : ∀ i j s, K i = some s → K j = some s → i = j) : KM n (fun j => if j = i then none else K j) = fun x => if x = s then none else KM n K x := by
  funext x
  unfold KM
  rw [posN_cut hk hu]
  split <;> rfl
/-- what a call of Put comes to. -/
theorem KSt.put_cases (n : Nat) (σ : KSt) (s : ByteArray) :
    (∃ i, posN n σ.K s = some i ∧ σ.put n s = (σ, none)) ∨
    (posN n σ.K s = none ∧ (64 < s.size ∨ σ.fl = []) ∧ σ.put n s = (σ, none)) ∨
    (posN n σ.K s = none ∧ s.size ≤ 64 ∧ ∃ fl i, σ.fl = fl ++ [i] ∧ σ.put n s = (⟨fl, fun j => if j = i then some s else σ.K j⟩, some i)) := by
  unfold KSt.put
  cases hp : posN n σ.K s with
  | some i => exact Or.inl ⟨i, rfl, rfl⟩
  | none =>
    by_cases h64 : 64 < s.size
    · exact Or.inr (Or.inl ⟨rfl, Or.inl h64, by simp only [if_pos h64]⟩)
    · cases hl : σ.fl.getLast? with
      | none => exact Or.inr (Or.inl ⟨rfl, Or.inr (List.getLast?_eq_none_iff.1 hl), by simp only [if_neg h64]⟩)
      | some i =>
        obtain ⟨l, hl'⟩ := List.getLast?_eq_some_iff.1 hl
        exact Or.inr (Or.inr ⟨rfl, by omega, l, i, hl', by simp only [if_neg h64]; rw [hl']; simp⟩)
theorem KSt.del_cases (n : Nat) (σ : KSt) (s : ByteArray) :
    (∃ i, posN n σ.K s = some i ∧ σ.del n s = (⟨σ.fl ++ [i], fun j => if j = i then none else σ.K j⟩, some i)) ∨ (posN n σ.K s = none ∧ σ.del n s = (σ, none)) := by
  unfold KSt.del
  cases hp : posN n σ.K s with
  | some i => exact Or.inl ⟨i, rfl, rfl⟩
  | none => exact Or.inr ⟨rfl, rfl⟩
theorem ixfind_fr {N : IxN} {σ : KSt} (s : ByteArray) (hs : s.size ≤ maxLen) (w : World) (h : IdxAt w N σ) :
    Calls Try.prog 40 #[.pointer (some ⟨N.x, 0, none⟩), .string s] w fun e w' => e = .returned (.int .i64 (plZ (posN N.n σ.K s))) ∧ IdxAt w' N σ ∧ Fr N.F w w' :=
  (ixfind_any s hs w h).mono (fun e w' hh => ⟨hh.1, h.keep hh.2, Fr.of_below hh.2⟩)
end Go.Proofs.Ytnpiimaapholiaa
/- The example of layer 5 (index), and what its laws begin with. -/
namespace Go.Proofs.Ytnpiimaapholiaa
set_option linter.unusedSimpArgs false
set_option linter.unusedVariables false
open Go.ChangeShapes Go.WideShapes Go.ChangeAt Go.RowKit
/-- three draws' function. -/
def dX (a _b _c : Nat) : Nat := a % 2305843009213693950 + 1
def dA (_a b _c : Nat) : Nat := b % 2305843009213693950 + 1
def dB (_a _b c : Nat) : Nat := c % 2305843009213693951
theorem d_lt (a b c : Nat) : dX a b c < 2305843009213693951 ∧ dA a b c < 2305843009213693951 ∧ dB a b c < 2305843009213693951 := by
  unfold dX dA dB
  have h1 := Nat.mod_lt a (show 0 < 2305843009213693950 by omega)
  have h2 := Nat.mod_lt b (show 0 < 2305843009213693950 by omega)
  have h3 := Nat.mod_lt c (show 0 < 2305843009213693951 by omega)
  omega
theorem d_row (a b c : Nat) : rX [(a : Int), (b : Int), (c : Int)] 0 = dX a b c ∧ rA [(a : Int), (b : Int), (c : Int)] 0 = dA a b c ∧ rB [(a : Int), (b : Int), (c : Int)] 0 = dB a b c := ⟨rfl, rfl, rfl⟩
theorem kNew_none (n i : Nat) (s : ByteArray) : (kNew n).K i ≠ some s := fun e => by cases e
end Go.Proofs.Ytnpiimaapholiaa
