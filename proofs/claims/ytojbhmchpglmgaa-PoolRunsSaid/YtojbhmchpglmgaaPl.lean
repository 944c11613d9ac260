/- The contracts of layer 10 (pool). -/
import Derived.Test.YtojbhmchpglmgaaIxK
import Derived.Test.YtojbhmchpglmgaaRws
import Derived.BigQuiet
namespace Go.Proofs.Ytojbhmchpglmgaa
set_option linter.unusedSimpArgs false
set_option linter.unusedVariables false
open Go.ChangeShapes Go.WideShapes Go.ChangeAt Go.RowKit
/-- a cell: four numbers. -/
abbrev Cel := Int × Int × Int × Int
def encC (c : Cel) : List Value := [.int .i64 c.1, .int .i64 c.2.1, .int .i64 c.2.2.1, .int .i64 c.2.2.2]
theorem encC_len (c : Cel) : (encC c).length = 4 := rfl
abbrev celV (c : Cel) : Value := .agg #[.int .i64 c.1, .int .i64 c.2.1, .int .i64 c.2.2.1, .int .i64 c.2.2.2]
/-- where a pool lies. -/
structure PlN where
  p : Nat
  cb : Nat
  N : IxN
def PlN.F (Q : PlN) (k : Nat) : Prop := Q.N.F k ∨ k = Q.cb
/-- all its blocks. -/
def PlN.all (Q : PlN) (k : Nat) : Prop := Q.F k ∨ k = Q.N.x ∨ k = Q.p
abbrev poolC (Q : PlN) : Array Value := #[.pointer (some ⟨Q.N.b, 0, none⟩), .pointer (some ⟨Q.N.x, 0, none⟩), .slice (some ⟨Q.cb, 0, none⟩) Q.N.n Q.N.n]
/-- a pool in memory: what its index has, its cells. -/
structure PlAt (w : World) (Q : PlN) (σ : KSt) (C : List Cel) : Prop where
  hp : Blk w Q.p 71 (poolC Q)
  hc : Blk w Q.cb 38 (rws encC C).toArray
  len : C.length = Q.N.n
  ix : IdxAt w Q.N σ
  n1 : Q.N.n ≤ 1024
  ne : Q.p ≠ Q.cb ∧ (∀ k, Q.N.F k ∨ k = Q.N.x → k ≠ Q.cb ∧ k ≠ Q.p)
theorem PlAt.keep {W w : World} {Q : PlN} {σ : KSt} {C : List Cel} (h : PlAt W Q σ C) (hb : Below W.heap.size W w) : PlAt w Q σ C := ⟨h.hp.keep hb, h.hc.keep hb, h.len, h.ix.keep hb, h.n1, h.ne⟩
theorem PlAt.fr {W w : World} {Q : PlN} {σ : KSt} {C : List Cel} {F : Nat → Prop} (h : PlAt W Q σ C) (hf : Fr F W w) (hF : ∀ k, Q.all k → ¬ F k) : PlAt w Q σ C :=
  ⟨h.hp.fr hf (hF _ (Or.inr (Or.inr rfl))), h.hc.fr hf (hF _ (Or.inl (Or.inr rfl))), h.len, h.ix.fr hf (fun k hk => hF k (by rcases hk with hk | hk; exact Or.inl (Or.inl hk); exact Or.inr (Or.inl hk))), h.n1, h.ne⟩
theorem PlAt.lt {w : World} {Q : PlN} {σ : KSt} {C : List Cel} (h : PlAt w Q σ C) : ∀ k, Q.all k → k < w.heap.size := by
  rintro k ((hk | hk) | hk | hk)
  · exact h.ix.lt k (Or.inl hk)
  · rw [hk]; exact lt_of_block h.hc
  · exact h.ix.lt k (Or.inr hk)
  · rw [hk]; exact lt_of_block h.hp
/-- a place's cell, as a pointer. -/
def plP (Q : PlN) : Option Nat → Value
  | some i => .pointer (some ⟨Q.cb, i * 4, none⟩)
  | none => .pointer none
def plSet (C : List Cel) (c : Cel) : Option Nat → List Cel
  | some i => C.set i c
  | none => C
section
variable {Q : PlN} {σ : KSt} {C : List Cel}
theorem PlAt.cell {w : World} (h : PlAt w Q σ C) {i : Nat} {c : Cel} (hi : C[i]? = some c) : w.cell? ⟨Q.cb, i * 4, none⟩ = some (.int .i64 c.1) ∧ w.cell? ⟨Q.cb, i * 4 + 1, none⟩ = some (.int .i64 c.2.1) ∧ w.cell? ⟨Q.cb, i * 4 + 2, none⟩ = some (.int .i64 c.2.2.1) ∧ w.cell? ⟨Q.cb, i * 4 + 3, none⟩ = some (.int .i64 c.2.2.2) :=
  ⟨rws_cell encC_len h.hc hi (j := 0) (by omega), rws_cell encC_len h.hc hi (j := 1) (by omega), rws_cell encC_len h.hc hi (j := 2) (by omega), rws_cell encC_len h.hc hi (j := 3) (by omega)⟩
set_option maxHeartbeats 1000000 in
theorem plfind_any (s : ByteArray) (hs : s.size ≤ maxLen) (w : World) (h : PlAt w Q σ C) :
    Calls Try.prog 13 #[.pointer (some ⟨Q.p, 0, none⟩), .string s] w fun e w' => e = .returned (plP Q (posN Q.N.n σ.K s)) ∧ Below w.heap.size w w' := by
  have CF := Lib.hid (ixfind_any s hs w h.ix)
  have HH := Lib.hid h
  have k := h.hp.rd
  have hn := h.n1
  have t0 : (Q.N.n : Int) ≤ 1024 := by omega
  cases hp : posN Q.N.n σ.K s with
  | none =>
    rw [hp] at CF
    clear hp h hn
    go_enter Try.func13, Try.ntmps13
    go_wp2_with (go_at_call 27; refine (show Calls Try.prog 27 #[.pointer (some ⟨Q.N.x, 0, none⟩), .string s] w (fun e w' => e = .returned (.int .i64 (-1)) ∧ Below w.heap.size w w') from CF.out).mono ?_; rintro e w1 ⟨rfl, b1⟩; have B1 := Lib.hid b1; clear b1)
    go_ret
    exact ⟨rfl, B1.out⟩
  | some i =>
    rw [hp] at CF
    have hi : i < Q.N.n := (posN_some hp).1
    have t1 : (i : Int) < (Q.N.n : Int) := by omega
    have t2 : decide ((i : Int) < 0) = false := by rw [decide_eq_false_iff_not]; omega
    clear hp h hn
    go_enter Try.func13, Try.ntmps13
    go_wp2_with (go_at_call 27; refine (show Calls Try.prog 27 #[.pointer (some ⟨Q.N.x, 0, none⟩), .string s] w (fun e w' => e = .returned (.int .i64 (i : Int)) ∧ Below w.heap.size w w') from CF.out).mono ?_; rintro e w1 ⟨rfl, b1⟩; have B1 := Lib.hid b1; have k := (HH.out.hp.keep b1).rd; clear b1)
    go_ret
    exact ⟨by unfold plP; rfl, B1.out⟩
set_option maxHeartbeats 2000000 in
theorem plput_any (s : ByteArray) (hs : s.size ≤ maxLen) (c : Cel) (w : World) (h : PlAt w Q σ C) :
    Calls Try.prog 10 #[.pointer (some ⟨Q.p, 0, none⟩), .string s, celV c] w fun e w' => e = .returned (plP Q (σ.put Q.N.n s).2) ∧ PlAt w' Q (σ.put Q.N.n s).1 (plSet C c (σ.put Q.N.n s).2) ∧ Fr Q.F w w' := by
  obtain ⟨w1, hw1, k1, l1, s1⟩ := box_new w #[.int .i64 c.1, .int .i64 c.2.1, .int .i64 c.2.2.1, .int .i64 c.2.2.2] 38
  obtain ⟨bx, hbx⟩ : ∃ bx, bx = w.heap.size := ⟨_, rfl⟩
  have CP := Lib.hid (ixput_any s hs w1 (h.ix.keep l1))
  have HH := Lib.hid (h.keep l1)
  have k := HH.out.hp.rd
  have hn := h.n1
  have hlt := h.lt
  have t0 : (Q.N.n : Int) ≤ 1024 := by omega
  rw [← hbx] at k1
  have HX := Lib.hid (show ∀ k, Q.all k → k ≠ bx from fun k hk e => by have := hlt k hk; omega)
  have KX := Lib.hid k1
  have L1 := Lib.hid l1
  have HB := Lib.hid hbx
  have hlt1 : ∀ i, (σ.put Q.N.n s).2 = some i → i < Q.N.n := fun i hi => KSt.put_lt w h.ix s hi
  obtain ⟨r, hr⟩ : ∃ r, r = σ.put Q.N.n s := ⟨_, rfl⟩
  rw [← hr] at CP hlt1 ⊢
  clear h hn hlt k1 l1 s1 hr
  obtain ⟨σ', o⟩ := r
  go_enter Try.func10, Try.ntmps10
  go_upto_region 1 with (fail)
  rw [← HB.out]
  clear hw1 hbx
  cases o with
  | none =>
    clear hlt1
    go_wp2_with (go_at_call 25; refine (show Calls Try.prog 25 #[.pointer (some ⟨Q.N.x, 0, none⟩), .string s] w1 (fun e w' => e = .returned (.int .i64 (-1)) ∧ IdxAt w' Q.N σ' ∧ Fr Q.N.F w1 w') from CP.out).mono ?_; rintro e w2 ⟨rfl, i2, f2⟩; have I2 := Lib.hid i2; have F2 := Lib.hid f2; clear i2 f2)
    go_ret
    have hh := HH.out
    exact ⟨rfl, ⟨hh.hp.fr F2.out (fun hF => (hh.ne.2 _ (Or.inl hF)).2 rfl), hh.hc.fr F2.out (fun hF => (hh.ne.2 _ (Or.inl hF)).1 rfl), hh.len, I2.out, hh.n1, hh.ne⟩, (Fr.of_below L1.out).trans (F2.out.mono (fun k hk => Or.inl hk))⟩
  | some i =>
    have hi := hlt1 i rfl
    have t1 : (i : Int) < (Q.N.n : Int) := by omega
    have t2 : decide ((i : Int) < 0) = false := by rw [decide_eq_false_iff_not]; omega
    clear hlt1
    have HI := Lib.hid hi
    go_upto_region 6 with (go_at_call 25; refine (show Calls Try.prog 25 #[.pointer (some ⟨Q.N.x, 0, none⟩), .string s] w1 (fun e w' => e = .returned (.int .i64 (i : Int)) ∧ IdxAt w' Q.N σ' ∧ Fr Q.N.F w1 w') from CP.out).mono ?_; rintro e w2 ⟨rfl, i2, f2⟩; have I2 := Lib.hid i2; have F2 := Lib.hid f2; clear i2 f2)
    have hh := HH.out
    have M2 := Lib.hid (show PlAt w2 Q σ' C from ⟨hh.hp.fr F2.out (fun hF => (hh.ne.2 _ (Or.inl hF)).2 rfl), hh.hc.fr F2.out (fun hF => (hh.ne.2 _ (Or.inl hF)).1 rfl), hh.len, I2.out, hh.n1, hh.ne⟩)
    have kx := (KX.out.fr F2.out (fun hF => HX.out _ (Or.inl (Or.inl hF)) rfl)).rd
    have hil : i < C.length := by rw [hh.len]; exact hi
    obtain ⟨c0, hc0⟩ : ∃ c0, C[i]? = some c0 := ⟨_, List.getElem?_eq_getElem hil⟩
    have kc := M2.out.cell hc0
    obtain ⟨kc0, kc1, kc2, kc3⟩ := kc
    clear k hh
    have k := M2.out.hp.rd
    have kw := M2.out.hc.wr
    have n1 : bx ≠ Q.cb := fun e => HX.out Q.cb (Or.inl (Or.inr rfl)) e.symm
    have n2 : Q.p ≠ Q.cb := M2.out.ne.1
    go_region
    all_goals
      rw [rws_store4 encC_len M2.out.hc hil c rfl]
      have hlc := lt_of_block M2.out.hc
      have F3 := Lib.hid (show Fr Q.F w (setObj w2 Q.cb (.cells (rws encC (C.set i c)).toArray 38 (0, 0))).drew from Fr.drew (Fr.setObj (F := Q.F) ((Fr.of_below L1.out).trans (F2.out.mono (fun k hk => Or.inl hk))) (Or.inr rfl) _))
      have M3 := Lib.hid (show PlAt (setObj w2 Q.cb (.cells (rws encC (C.set i c)).toArray 38 (0, 0))).drew Q σ' (C.set i c) from by
        have hf : Fr (fun k => k = Q.cb) w2 (setObj w2 Q.cb (.cells (rws encC (C.set i c)).toArray 38 (0, 0))).drew := Fr.drew (Fr.setObj (F := fun k => k = Q.cb) (Fr.refl _ _) rfl _)
        exact ⟨M2.out.hp.fr hf n2, Blk.drew (setObj_at hlc _), by rw [List.length_set]; exact M2.out.len, M2.out.ix.fr hf (fun k hk e => (M2.out.ne.2 k hk).1 e), M2.out.n1, M2.out.ne⟩)
      generalize (setObj w2 Q.cb (.cells (rws encC (C.set i c)).toArray 38 (0, 0))).drew = w3 at M3 F3 ⊢
      clear kc0 kc1 kc2 kc3 k kw kx n1 n2 hlc
      have k := M3.out.hp.rd
      go_wp2
      go_ret
      exact ⟨rfl, M3.out, F3.out⟩
/-- what Remove answers. -/
def remV (C : List Cel) : Option Nat → Value
  | some i => .tuple #[celV (C.getD i (0, 0, 0, 0)), .bool true]
  | none => .tuple #[celV (0, 0, 0, 0), .bool false]
set_option maxHeartbeats 2000000 in
theorem plremove_any (s : ByteArray) (hs : s.size ≤ maxLen) (w : World) (h : PlAt w Q σ C) :
    Calls Try.prog 12 #[.pointer (some ⟨Q.p, 0, none⟩), .string s] w fun e w' => e = .returned (remV C (σ.del Q.N.n s).2) ∧ PlAt w' Q (σ.del Q.N.n s).1 C ∧ Fr Q.F w w' := by
  obtain ⟨w1, hw1, k1, l1, s1⟩ := box_new w #[.int .i64 0, .int .i64 0, .int .i64 0, .int .i64 0] 38
  obtain ⟨bx, hbx⟩ : ∃ bx, bx = w.heap.size := ⟨_, rfl⟩
  have CP := Lib.hid (ixremove_any s hs w1 (h.ix.keep l1))
  have HH := Lib.hid (h.keep l1)
  have k := HH.out.hp.rd
  have hn := h.n1
  have hlt := h.lt
  have t0 : (Q.N.n : Int) ≤ 1024 := by omega
  rw [← hbx] at k1
  have HX := Lib.hid (show ∀ k, Q.all k → k ≠ bx from fun k hk e => by have := hlt k hk; omega)
  have KX := Lib.hid k1
  have L1 := Lib.hid l1
  have HB := Lib.hid hbx
  have hlt1 : ∀ i, (σ.del Q.N.n s).2 = some i → i < Q.N.n := fun i hi => KSt.del_lt Q.N.n s hi
  obtain ⟨r, hr⟩ : ∃ r, r = σ.del Q.N.n s := ⟨_, rfl⟩
  rw [← hr] at CP hlt1 ⊢
  clear h hn hlt k1 l1 s1 hr
  obtain ⟨σ', o⟩ := r
  go_enter Try.func12, Try.ntmps12
  go_upto_region 1 with (fail)
  rw [← HB.out]
  clear hw1 hbx
  cases o with
  | none =>
    clear hlt1
    go_upto_region 5 with (go_at_call 26; refine (show Calls Try.prog 26 #[.pointer (some ⟨Q.N.x, 0, none⟩), .string s] w1 (fun e w' => e = .returned (.int .i64 (-1)) ∧ IdxAt w' Q.N σ' ∧ Fr Q.N.F w1 w') from CP.out).mono ?_; rintro e w2 ⟨rfl, i2, f2⟩; have I2 := Lib.hid i2; have F2 := Lib.hid f2; clear i2 f2)
    have kx := KX.out.fr F2.out (fun hF => HX.out _ (Or.inl (Or.inl hF)) rfl)
    have HKX := Lib.hid kx
    have kr := kx.rd
    have kw := kx.wr
    clear kx
    go_wp2
    rw [four_setC HKX.out]
    refine bodyPost_ret (results_rowT rfl _ _ bx _ _ (0, 0) _ rfl (setObj_at (lt_of_block HKX.out) _) Try.underlying38 rfl (by kernel_rfl)) rfl ?_
    have hh := HH.out
    have m2 : PlAt w2 Q σ' C := ⟨hh.hp.fr F2.out (fun hF => (hh.ne.2 _ (Or.inl hF)).2 rfl), hh.hc.fr F2.out (fun hF => (hh.ne.2 _ (Or.inl hF)).1 rfl), hh.len, I2.out, hh.n1, hh.ne⟩
    have hf : Fr Q.F w (setObj w2 bx (.cells #[.int .i64 0, .int .i64 0, .int .i64 0, .int .i64 0] 38 (0, 0))) := Fr.drop_new (F := Q.F) (s := bx) (Fr.setObj (F := fun k => Q.F k ∨ k = bx) ((Fr.of_below L1.out).trans (F2.out.mono (fun k hk => Or.inl (Or.inl hk)))) (Or.inr rfl) _) (by have := HB.out; omega)
    exact ⟨rfl, m2.fr (Fr.setObj (F := fun k => k = bx) (Fr.refl _ _) rfl _) (fun k hk e => HX.out k hk e), hf⟩
  | some i =>
    have hi := hlt1 i rfl
    have t1 : (i : Int) < (Q.N.n : Int) := by omega
    have t2 : decide ((i : Int) < 0) = false := by rw [decide_eq_false_iff_not]; omega
    clear hlt1
    have HI := Lib.hid hi
    go_upto_region 6 with (go_at_call 26; refine (show Calls Try.prog 26 #[.pointer (some ⟨Q.N.x, 0, none⟩), .string s] w1 (fun e w' => e = .returned (.int .i64 (i : Int)) ∧ IdxAt w' Q.N σ' ∧ Fr Q.N.F w1 w') from CP.out).mono ?_; rintro e w2 ⟨rfl, i2, f2⟩; have I2 := Lib.hid i2; have F2 := Lib.hid f2; clear i2 f2)
    have hh := HH.out
    have M2 := Lib.hid (show PlAt w2 Q σ' C from ⟨hh.hp.fr F2.out (fun hF => (hh.ne.2 _ (Or.inl hF)).2 rfl), hh.hc.fr F2.out (fun hF => (hh.ne.2 _ (Or.inl hF)).1 rfl), hh.len, I2.out, hh.n1, hh.ne⟩)
    have kx := KX.out.fr F2.out (fun hF => HX.out _ (Or.inl (Or.inl hF)) rfl)
    have HKX := Lib.hid kx
    have hil : i < C.length := by rw [hh.len]; exact hi
    obtain ⟨c0, hc0⟩ : ∃ c0, C[i]? = some c0 := ⟨_, List.getElem?_eq_getElem hil⟩
    have hcD : C.getD i (0, 0, 0, 0) = c0 := by rw [List.getD_eq_getElem?_getD, hc0]; rfl
    obtain ⟨kc0, kc1, kc2, kc3⟩ := M2.out.cell hc0
    have HC := Lib.hid hcD
    clear k hh hc0 hil hcD
    have k := M2.out.hp.rd
    have kr := kx.rd
    have kw := kx.wr
    clear kx
    go_wp2
    rw [four_setC HKX.out]
    refine bodyPost_ret (results_rowT rfl _ _ bx _ _ (0, 0) _ rfl (setObj_at (lt_of_block HKX.out) _) Try.underlying38 rfl (by kernel_rfl)) rfl ?_
    have hf : Fr Q.F w (setObj w2 bx (.cells #[.int .i64 c0.1, .int .i64 c0.2.1, .int .i64 c0.2.2.1, .int .i64 c0.2.2.2] 38 (0, 0))) := Fr.drop_new (F := Q.F) (s := bx) (Fr.setObj (F := fun k => Q.F k ∨ k = bx) ((Fr.of_below L1.out).trans (F2.out.mono (fun k hk => Or.inl (Or.inl hk)))) (Or.inr rfl) _) (by have := HB.out; omega)
    exact ⟨by show _ = Ending.returned (.tuple #[celV (C.getD i (0, 0, 0, 0)), .bool true]); rw [HC.out]; rfl, M2.out.fr (Fr.setObj (F := fun k => k = bx) (Fr.refl _ _) rfl _) (fun k hk e => HX.out k hk e), hf⟩
theorem pllen_any (w : World) (h : PlAt w Q σ C) : Calls Try.prog 14 #[.pointer (some ⟨Q.p, 0, none⟩)] w fun e w' => e = .returned (.int .i64 ((Q.N.n - σ.fl.length : Nat) : Int)) ∧ Below w.heap.size w w' := by
  have CU := Lib.hid (used_any w h.ix.ks)
  have k := h.hp.rd
  clear h
  go_enter Try.func14, Try.ntmps14
  go_wp2_with (go_at_call 28; ((with_reducible refine CU.out.mono ?_); rintro e w1 ⟨rfl, b1⟩; have B1 := Lib.hid b1; clear b1))
  go_ret
  exact ⟨rfl, B1.out⟩
theorem plfull_any (w : World) (h : PlAt w Q σ C) : Calls Try.prog 15 #[.pointer (some ⟨Q.p, 0, none⟩)] w fun e w' => e = .returned (.bool (decide (((Q.N.n - σ.fl.length : Nat) : Int) = (Q.N.n : Int)))) ∧ Below w.heap.size w w' := by
  have CU := Lib.hid (fun wx (hx : Below w.heap.size w wx) => show Calls Try.prog 28 #[.pointer (some ⟨Q.N.b, 0, none⟩)] wx (fun e w' => e = .returned (.int .i64 ((Q.N.n - σ.fl.length : Nat) : Int)) ∧ (∀ (i : Nat), w'.cell? { block := Q.p, off := i } = (poolC Q)[i]?) ∧ Below w.heap.size w w') from (used_any wx (h.ix.keep hx).ks).mono (fun e w' hh => ⟨hh.1, (h.hp.keep (below_in hx hh.2)).rd, below_in hx hh.2⟩))
  have CL := Lib.hid (fun wx (hx : Below w.heap.size w wx) => len_any wx (h.ix.keep hx).ks)
  have k := h.hp.rd
  clear h
  go_enter Try.func15, Try.ntmps15
  go_upto_region 1 with (fail)
  have y2 : Below w.heap.size w w.drew := below_draws (Below.refl _ _) 1
  have k2 : ∀ (i : Nat), w.drew.cell? { block := Q.p, off := i } = (poolC Q)[i]? := k
  go_region_held3 (fun w' => (∀ (i : Nat), w'.cell? { block := Q.p, off := i } = (poolC Q)[i]?) ∧ Below w.heap.size w w') (refine ⟨?_, ?_⟩ <;> assumption)
    (first
      | (go_at_call 28; ((with_reducible refine (CU.out _ (by assumption)).mono ?_); rintro e w2 ⟨rfl, z1, z2⟩))
      | (go_at_call 29; ((with_reducible refine (CL.out _ (by assumption)).mono ?_); rintro e w3 ⟨rfl, rfl⟩)))
  go_wp2
  go_ret
  first | exact ⟨rfl, by assumption⟩ | (refine ⟨?_, by assumption⟩; trace_state; rfl)
/-- no pool. -/
theorem plfind_nil (s : ByteArray) (w : World) : Calls Try.prog 13 #[.pointer none, .string s] w fun e w' => e = .returned (.pointer none) ∧ w = w' := by
  go_enter Try.func13, Try.ntmps13
  go_wp2
  go_ret
  exact ⟨rfl, rfl⟩
theorem pllen_nil (w : World) : Calls Try.prog 14 #[.pointer none] w fun e w' => e = .returned (.int .i64 0) ∧ w = w' := by
  go_enter Try.func14, Try.ntmps14
  go_wp2
  go_ret
  exact ⟨rfl, rfl⟩
theorem plfull_nil (w : World) : Calls Try.prog 15 #[.pointer none] w fun e w' => e = .returned (.bool true) ∧ Below w.heap.size w w' := by
  go_enter Try.func15, Try.ntmps15
  go_upto_region 1 with (fail)
  go_quiet (fail)
  go_wp2
  go_ret
  exact ⟨rfl, below_draws (Below.refl _ _) _⟩
theorem plput_nil (s : ByteArray) (c : Cel) (w : World) : Calls Try.prog 10 #[.pointer none, .string s, celV c] w fun e w' => e = .returned (.pointer none) ∧ Below w.heap.size w w' := by
  go_enter Try.func10, Try.ntmps10
  go_wp2
  go_ret
  exact ⟨rfl, (Below.refl _ _).alloc (Nat.le_refl _) _⟩
theorem plremove_nil (s : ByteArray) (w : World) : Calls Try.prog 12 #[.pointer none, .string s] w fun e w' => e = .returned (.tuple #[celV (0, 0, 0, 0), .bool false]) ∧ Below w.heap.size w w' := by
  obtain ⟨w1, hw1, k1, l1, s1⟩ := box_new w #[.int .i64 0, .int .i64 0, .int .i64 0, .int .i64 0] 38
  obtain ⟨bx, hbx⟩ : ∃ bx, bx = w.heap.size := ⟨_, rfl⟩
  rw [← hbx] at k1
  have KX := Lib.hid k1
  have L1 := Lib.hid l1
  have HB := Lib.hid hbx
  have kr := k1.rd
  have kw := k1.wr
  clear k1 l1 s1
  go_enter Try.func12, Try.ntmps12
  go_upto_region 1 with (fail)
  rw [← HB.out]
  clear hw1 hbx
  go_wp2
  rw [four_setC KX.out]
  refine bodyPost_ret (results_rowT rfl _ _ bx _ _ (0, 0) _ rfl (setObj_at (lt_of_block KX.out) _) Try.underlying38 rfl (by kernel_rfl)) rfl ?_
  exact ⟨rfl, L1.out.trans ((Fr.setObj (F := fun k => k = bx) (Fr.refl _ _) rfl _).below L1.out.size (fun k hk => by have := HB.out; omega))⟩
theorem plbytes_any (n : Nat) (hn : n ≤ 65536) (w : World) : Calls Try.prog 19 #[.int .i64 (n : Int)] w fun e w' => e = .returned (.int .i64 (109 * (n : Int) + 4)) ∧ w = w' := by
  have CK := Lib.hid (fun w => bytes_any (n : Int) (by omega) w)
  have CI := Lib.hid (fun w => ixbytes_any n hn w)
  obtain ⟨v, hv⟩ : ∃ v : Int, v = 4 * ((2 * n + 1 : Nat) : Int) := ⟨_, rfl⟩
  rw [← hv] at CI
  have t0 : (n : Int) ≤ 65536 := by omega
  have t1 : v = 8 * (n : Int) + 4 := by omega
  clear hv hn
  go_enter Try.func19, Try.ntmps19
  go_wp2_with (first
    | (go_at_call 33; ((with_reducible refine (CK.out _).mono ?_); rintro e w1 ⟨rfl, rfl⟩))
    | (go_at_call 34; ((with_reducible refine (CI.out _).mono ?_); rintro e w1 ⟨rfl, rfl⟩)))
  go_ret
  exact ⟨ret_i (by omega), rfl⟩
theorem hold_al {W0 W1 : World} {rb : Nat} {C : Array Value} (h : ∀ j, W1.cell? ⟨rb, j, none⟩ = C[j]?) (hb : Below W0.heap.size W0 W1) (hr : rb < W0.heap.size) (o : Obj) : (∀ j, (W1.alloc o).cell? ⟨rb, j, none⟩ = C[j]?) ∧ Below W0.heap.size W0 (W1.alloc o) :=
  ⟨fun j => by rw [← h j]; exact (Fr.alloc (F := fun _ => False) (Fr.refl _ _) o).cell (by have := hb.size; omega) (fun h => h), hb.alloc hb.size o⟩
theorem info_cel : (Try.prog.info? 38).map (fun i => (i.zero, i.size, i.bytes)) = some (some (.agg #[.int .i64 0, .int .i64 0, .int .i64 0, .int .i64 0]), 4, 32) := by kernel_rfl
set_option maxHeartbeats 4000000 in
theorem plnew_any (X A B : Nat) (hX : X < 2305843009213693951) (hA : A < 2305843009213693951) (hB : B < 2305843009213693951) (n : Nat) (h1 : 1 ≤ n) (hn : n ≤ 1024) (w : World) :
    Calls Try.prog 8 #[.int .i64 (n : Int), .agg #[.int .u64 X, .int .u64 A, .int .u64 B]] w fun e w' => ∃ Q : PlN, e = .returned (.pointer (some ⟨Q.p, 0, none⟩)) ∧ PlAt w' Q (kNew n) (List.replicate n (0, 0, 0, 0)) ∧ Q.N.n = n ∧ (∀ k, Q.all k → w.heap.size ≤ k) ∧ Below w.heap.size w w' := by
  obtain ⟨i0, hi, hz0, hz1, hz2⟩ := info_parts info_cel
  have hmk := make_rws encC_len (by omega) (0, 0, 0, 0) (P := Try.prog) (t := 69) (e := 38) rfl Try.underlying69 hi hz0 hz1 hz2 n (by omega) (by omega)
  have CK := Lib.hid (fun w => new_yes n (by omega) w)
  have t1 : decide ((n : Int) < 1) = false := by rw [decide_eq_false_iff_not]; omega
  have t2 : decide ((1024 : Int) < (n : Int)) = false := by rw [decide_eq_false_iff_not]; omega
  have t0 : (n : Int) ≤ 1024 := by omega
  have HN := Lib.hid (And.intro h1 hn)
  clear hi hz0 hz1 hz2 h1 hn
  go_enter Try.func8, Try.ntmps8
  go_upto_region 1 with (fail)
  obtain ⟨w1, hw1, hbk, hbl, hsz⟩ := box_new w #[.int .u64 (X : Int), .int .u64 (A : Int), .int .u64 (B : Int)] 29
  rw [hw1]
  obtain ⟨rb, hrb⟩ : ∃ rb, rb = w.heap.size := ⟨_, rfl⟩
  rw [← hrb] at hbk ⊢
  have BK := Lib.hid hbk
  have HB := Lib.hid hbl
  have HS := Lib.hid (And.intro hsz hrb)
  clear hbk hbl hsz hw1 hrb
  go_upto_region 4 with (go_at_call 20; ((with_reducible refine (CK.out _).mono ?_); rintro e w2 ⟨sb, sgb, sgs, sgf, rfl, hk, bk, hb⟩; have KK := Lib.hid hk; have HBB := Lib.hid hb; have K2 := Lib.hid (BK.out.keep bk); have HB2 := Lib.hid (below_in HB.out bk); have HZ := Lib.hid bk.size; clear hk bk hb))
  have k : ∀ j, w2.drew.cell? ⟨rb, j, none⟩ = (#[.int .u64 (X : Int), .int .u64 (A : Int), .int .u64 (B : Int)] : Array Value)[j]? := K2.out.drew.rd
  have y2 : Below w2.heap.size w2 w2.drew := below_draws (Below.refl _ _) 1
  have RL := Lib.hid (lt_of_block K2.out)
  have CI := Lib.hid (fun wx (hx : Below w2.heap.size w2 wx) => show Calls Try.prog 21 #[.pointer (some ⟨sb, 0, none⟩), .agg #[.int .u64 X, .int .u64 A, .int .u64 B]] wx (fun e w' => ∃ x g, e = .returned (.pointer (some ⟨x, 0, none⟩)) ∧ IdxAt w' ⟨x, sb, X, A, B, g, sgb, sgs, sgf, n⟩ (kNew n) ∧ (∀ j, w'.cell? ⟨rb, j, none⟩ = (#[.int .u64 (X : Int), .int .u64 (A : Int), .int .u64 (B : Int)] : Array Value)[j]?) ∧ Below w2.heap.size w2 w' ∧ Below wx.heap.size wx w' ∧ wx.heap.size ≤ x ∧ wx.heap.size ≤ g) from (ixnew_st X A B hX hA hB sb sgb sgs sgf n wx (KK.out.keep hx)).mono (fun e w' ⟨x, g, he, hi, hb, hx1, hg1⟩ => ⟨x, g, he, hi, ((K2.out.keep hx).keep hb).rd, below_in hx hb, hb, hx1, hg1⟩))
  go_region_held3 (fun w' => (∀ j, w'.cell? ⟨rb, j, none⟩ = (#[.int .u64 (X : Int), .int .u64 (A : Int), .int .u64 (B : Int)] : Array Value)[j]?) ∧ Below w2.heap.size w2 w') (first | (refine ⟨?_, ?_⟩ <;> assumption) | exact hold_al (by assumption) (by assumption) RL.out _ | exact hold_al (hold_al (by assumption) (by assumption) RL.out _).1 (hold_al (by assumption) (by assumption) RL.out _).2 RL.out _)
    ((go_at_call 21; ((with_reducible refine (CI.out _ (by first | assumption | exact And.right (by assumption))).mono ?_); rintro e w3 ⟨x, g, rfl, hi, z1, z2, z3, z4, z5⟩; have I3 := Lib.hid hi; have B3 := Lib.hid z3; have X3 := Lib.hid (And.intro z4 z5); clear hi z3 z4 z5)))
  all_goals
    go_wp2
    go_ret
  all_goals
    have hn := HN.out
    have hkl := KK.out.lt
    have hbb := HBB.out
    have hx := X3.out
    have hil := I3.out.lt
    have l1 := hil x (Or.inr rfl)
    have l2 := hil g (Or.inl (Or.inl rfl))
    have l3 := z2.size
    have l4 := HZ.out
    have l5 := HS.out
    have l6 := HB.out.size
    have l7 : w2.drew.heap.size = w2.heap.size := rfl
  · obtain ⟨w4, hw4, k4, b4, s4⟩ := box_new w3 (rws encC (List.replicate n (0, 0, 0, 0))).toArray 38
    rw [hw4]
    obtain ⟨w5, hw5, k5, b5, s5⟩ := box_new w4 #[.pointer (some ⟨sb, 0, none⟩), .pointer (some ⟨x, 0, none⟩), .slice (some ⟨w3.heap.size, 0, none⟩) n n] 71
    rw [hw5]
    rw [s4] at k5
    have bb := below_in (below_in (below_in HB2.out z2) b4) b5
    refine ⟨⟨w3.heap.size + 1, w3.heap.size, ⟨x, sb, X, A, B, g, sgb, sgs, sgf, n⟩⟩, rfl, ⟨k5, k4.keep b5, by rw [List.length_replicate], (I3.out.keep b4).keep b5, hn.2, by simp only; omega, ?_⟩, rfl, ?_, bb⟩
    · rintro k ((hk | hk | hk | hk | hk) | hk) <;> simp only at hk ⊢ <;> omega
    · rintro k (((hk | hk | hk | hk | hk) | hk) | hk | hk) <;> simp only at hk ⊢ <;> omega
  · obtain ⟨w5, hw5, k5, b5, s5⟩ := box_new w3 #[.pointer (some ⟨sb, 0, none⟩), .pointer (some ⟨x, 0, none⟩), .slice (some ⟨w2.heap.size, 0, none⟩) n n] 71
    rw [hw5]
    have k4 : Blk w3 w2.heap.size 38 (rws encC (List.replicate n (0, 0, 0, 0))).toArray := by
      obtain ⟨w4, hw4, k4, b4, s4⟩ := box_new w2 (rws encC (List.replicate n (0, 0, 0, 0))).toArray 38
      have b3 := B3.out
      rw [hw4] at b3
      exact k4.drew.keep b3
    have l8 : (w2.alloc (Obj.cells (rws encC (List.replicate n (0, 0, 0, 0))).toArray 38)).drew.heap.size = w2.heap.size + 1 := by
      show (w2.heap.push _).size = _
      simp
    rw [l8] at hx
    have bb := below_in (below_in HB2.out z2) b5
    refine ⟨⟨w3.heap.size, w2.heap.size, ⟨x, sb, X, A, B, g, sgb, sgs, sgf, n⟩⟩, rfl, ⟨k5, k4.keep b5, by rw [List.length_replicate], I3.out.keep b5, hn.2, by simp only; omega, ?_⟩, rfl, ?_, bb⟩
    · rintro k ((hk | hk | hk | hk | hk) | hk) <;> simp only at hk ⊢ <;> omega
    · rintro k (((hk | hk | hk | hk | hk) | hk) | hk | hk) <;> simp only at hk ⊢ <;> omega
end
end Go.Proofs.Ytojbhmchpglmgaa
