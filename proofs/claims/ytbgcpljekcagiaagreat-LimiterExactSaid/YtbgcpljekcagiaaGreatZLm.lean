import Derived.Test.YtbgcpljekcagiaaGreatPlI
import Derived.Test.YtbgcpljekcagiaaGreatZSlL
import Derived.Test.YtbgcpljekcagiaaGreatZSlN
import Derived.Test.YtbgcpljekcagiaaGreatZCellB
import Derived.BigQuiet
import Derived.Test.YtbgcpljekcagiaaGreatZPlA
import Derived.Test.YtbgcpljekcagiaaGreatGen
import Derived.Deep.AppendLies
import Derived.Laws.OwnMore
import Derived.Test.YtbgcpljekcagiaaGreatZSmP
import Derived.Test.YtbgcpljekcagiaaGreatBits
/- The contracts of layer 12 (limiter): a limiter in memory; its small functions. -/
namespace Go.Proofs.YtbgcpljekcagiaaGreat
set_option linter.unusedSimpArgs false
set_option linter.unusedVariables false
set_option maxRecDepth 100000
open Go.ChangeShapes Go.WideShapes Go.ChangeAt Go.RowKit
open Ar (inR)
/-- where a limiter lies, and what of it never changes. -/
structure LmN where
  l : Nat
  rows : Value
  U : Int
  W : Int
  B : Int
  L : Int
  Q : PlN
  R : RgN
  S : SmN
/-- what a limiter has: its pool's keys and cells, its ring, its summary, how many checks came to what. -/
structure LmS where
  σ : KSt
  C : List Cel
  r : RgS
  M : List Tri
  tot : Int
  al : Int
  de : Int
  ba : Int
abbrev limC (N : LmN) (al de ba : Int) : Array Value := #[.int .i64 N.U, .int .i64 N.W, .int .i64 N.B, .int .i64 N.L, N.rows, .pointer (some ⟨N.Q.p, 0, none⟩), .pointer (some ⟨N.R.x, 0, none⟩), .pointer (some ⟨N.S.s, 0, none⟩), .int .i64 al, .int .i64 de, .int .i64 ba, .int .i64 0, .int .i64 0]
/-- the blocks of a limiter's parts. -/
def LmN.parts (N : LmN) (k : Nat) : Prop := N.Q.all k ∨ N.R.all k ∨ N.S.all k
def LmN.all (N : LmN) (k : Nat) : Prop := N.parts k ∨ k = N.l
/-- a limiter in memory. -/
structure LmAt (w : World) (N : LmN) (s : LmS) : Prop where
  hl : Blk w N.l 92 (limC N s.al s.de s.ba)
  hp : PlAt w N.Q s.σ s.C
  hr : RgAt w N.R s.r
  hm : SmM w N.S s.M s.tot
  nl : ∀ k, N.parts k → k ≠ N.l
  n1 : ∀ k, N.Q.all k → ¬ N.R.all k ∧ ¬ N.S.all k
  n2 : ∀ k, N.R.all k → ¬ N.S.all k
section
variable {w W : World} {N : LmN} {s : LmS}
theorem LmAt.fr {F : Nat → Prop} (h : LmAt W N s) (hf : Fr F W w) (hF : ∀ k, N.all k → ¬ F k) : LmAt w N s :=
  ⟨h.hl.fr hf (hF _ (Or.inr rfl)), h.hp.fr hf (fun k hk => hF k (Or.inl (Or.inl hk))), h.hr.fr hf (fun k hk => hF k (Or.inl (Or.inr (Or.inl hk)))), h.hm.fr hf (fun k hk => hF k (Or.inl (Or.inr (Or.inr hk)))), h.nl, h.n1, h.n2⟩
theorem LmAt.keep (h : LmAt W N s) (hb : Below W.heap.size W w) : LmAt w N s := h.fr (F := fun _ => False) (Fr.of_below hb) (fun _ _ => id)
theorem LmAt.lt (h : LmAt w N s) : ∀ k, N.all k → k < w.heap.size := by
  intro k hk
  rcases hk with (hk | hk | hk) | rfl
  · exact h.hp.lt k hk
  · exact h.hr.lt k hk
  · obtain ⟨L, σ, g, _⟩ := h.hm
    exact g.lt k hk
  · exact lt_of_block h.hl
/-- its ring alone has changed. -/
theorem LmAt.ring {r : RgS} (h : LmAt W N s) (h1 : RgAt w N.R r) {F : Nat → Prop} (hf : Fr F W w) (hF : ∀ k, F k → N.R.all k) : LmAt w N { s with r := r } := by
  refine ⟨h.hl.fr hf (fun g => h.nl _ (Or.inr (Or.inl (hF _ g))) rfl), h.hp.fr hf (fun k hk g => (h.n1 k hk).1 (hF k g)), h1, h.hm.fr hf (fun k hk g => h.n2 k (hF k g) hk), h.nl, h.n1, h.n2⟩
/-- its pool alone has changed. -/
theorem LmAt.pool {σ : KSt} {C : List Cel} (h : LmAt W N s) (h1 : PlAt w N.Q σ C) {F : Nat → Prop} (hf : Fr F W w) (hF : ∀ k, F k → N.Q.all k) : LmAt w N { s with σ := σ, C := C } := by
  refine ⟨h.hl.fr hf (fun g => h.nl _ (Or.inl (hF _ g)) rfl), h1, h.hr.fr hf (fun k hk g => (h.n1 k (hF k g)).1 hk), h.hm.fr hf (fun k hk g => (h.n1 k (hF k g)).2 hk), h.nl, h.n1, h.n2⟩
/-- its summary alone has changed. -/
theorem LmAt.summ {M : List Tri} {tot : Int} (h : LmAt W N s) (h1 : SmM w N.S M tot) {F : Nat → Prop} (hf : Fr F W w) (hF : ∀ k, F k → N.S.all k) : LmAt w N { s with M := M, tot := tot } := by
  refine ⟨h.hl.fr hf (fun g => h.nl _ (Or.inr (Or.inr (hF _ g))) rfl), h.hp.fr hf (fun k hk g => (h.n1 k hk).2 (hF k g)), h.hr.fr hf (fun k hk g => h.n2 k hk (hF k g)), h1, h.nl, h.n1, h.n2⟩
/-- its counts alone have changed. -/
theorem LmAt.cnts {al de ba : Int} (h : LmAt W N s) (h1 : Blk w N.l 92 (limC N al de ba)) (hf : Fr (fun k => k = N.l) W w) : LmAt w N { s with al := al, de := de, ba := ba } := by
  refine ⟨h1, h.hp.fr hf (fun k hk => h.nl k (Or.inl hk)), h.hr.fr hf (fun k hk => h.nl k (Or.inr (Or.inl hk))), h.hm.fr hf (fun k hk => h.nl k (Or.inr (Or.inr hk))), h.nl, h.n1, h.n2⟩
end
/-- what a call is answered: the verdict, what remains, how long it is. -/
abbrev ansV (v r t : Int) : Value := .agg #[.int .i64 v, .int .i64 r, .int .i64 t]
end Go.Proofs.YtbgcpljekcagiaaGreat
/- The contracts of layer 12 (limiter): refuse, count, left. -/
namespace Go.Proofs.YtbgcpljekcagiaaGreat
set_option linter.unusedSimpArgs false
set_option linter.unusedVariables false
set_option maxRecDepth 100000
open Go.ChangeShapes Go.WideShapes Go.ChangeAt Go.RowKit
open Ar (inR)
theorem three_setC {w : World} {b : Nat} {t : TypeId} {a0 a1 a2 v0 v1 v2 : Value} (h : Blk w b t #[a0, a1, a2]) :
    (((w.setCell ⟨b, 0, none⟩ v0).setCell ⟨b, 1, none⟩ v1).setCell ⟨b, 2, none⟩ v2) = setObj w b (.cells #[v0, v1, v2] t (0, 0)) := by
  have hl := lt_of_block h
  rw [setCell_obj h]
  simp only [setCell_in hl, List.setIfInBounds_toArray, List.set_cons_zero, List.set_cons_succ]
section
variable {N : LmN} {s : LmS}
/-- the answer to what no key is asked for; false: there is none. -/
def refZ (N : LmN) (now held cost : Int) : (Int × Int × Int) × Bool :=
  if cost < 1 ∨ N.B < cost then ((3, 0, 0), true) else if 4611686018427387904 ≤ now then ((2, 0, 9223372036854775807), true) else if 0 < held then ((2, 0, held), true) else ((0, 0, 0), false)
abbrev ansT (a : Int × Int × Int) : Value := ansV a.1 a.2.1 a.2.2
set_option maxHeartbeats 4000000 in
theorem lmrefuse_any (now held cost : Int) (hn : inR now) (hh : inR held) (hc : inR cost) (w : World) (h : LmAt w N s) :
    Calls Tryz.prog 42 #[.pointer (some ⟨N.l, 0, none⟩), .int .i64 now, .int .i64 held, .int .i64 cost] w fun e w' => e = .returned (.tuple #[ansT (refZ N now held cost).1, .bool (refZ N now held cost).2]) ∧ Below w.heap.size w w' := by
  obtain ⟨w1, hw1, k1, l1, s1⟩ := box_new w #[.int .i64 0, .int .i64 0, .int .i64 0] 40
  obtain ⟨bx, hbx⟩ : ∃ bx, bx = w.heap.size := ⟨_, rfl⟩
  have kl := (h.hl.keep l1).rd
  rw [← hbx] at k1
  have kr := k1.rd
  have kw := k1.wr
  have K1 := Lib.hid k1
  have L1 := Lib.hid l1
  have HB := Lib.hid hbx
  have HE : Hid (∀ a b c : Int, Below w.heap.size w (setObj w1 bx (.cells #[.int .i64 a, .int .i64 b, .int .i64 c] 40 (0, 0)))) := Lib.hid (fun a b c => l1.trans ((Fr.setObj (F := fun k => k = bx) (Fr.refl _ _) rfl _).below l1.size (fun k hk => by omega)))
  have e1 : refZ N now held cost = if cost < 1 ∨ N.B < cost then ((3, 0, 0), true) else if 4611686018427387904 ≤ now then ((2, 0, 9223372036854775807), true) else if 0 < held then ((2, 0, held), true) else ((0, 0, 0), false) := rfl
  unfold inR at hn hh hc
  clear k1 l1 s1 h
  by_cases c1 : cost < 1
  · rw [e1, if_pos (Or.inl c1)]
    clear e1
    go_enter Tryz.func42, Tryz.ntmps42
    go_upto_region 1 with (fail)
    rw [← HB.out]
    clear hw1 hbx
    go_wp2
    rw [three_setC K1.out]
    refine bodyPost_ret (results_rowT rfl _ _ bx _ _ (0, 0) _ rfl (setObj_at (lt_of_block K1.out) _) Tryz.underlying40 rfl (by kernel_rfl)) rfl ?_
    exact ⟨rfl, HE.out _ _ _⟩
  by_cases c2 : N.B < cost
  · rw [e1, if_pos (Or.inr c2)]
    clear e1
    go_enter Tryz.func42, Tryz.ntmps42
    go_upto_region 1 with (fail)
    rw [← HB.out]
    clear hw1 hbx
    go_wp2
    rw [three_setC K1.out]
    refine bodyPost_ret (results_rowT rfl _ _ bx _ _ (0, 0) _ rfl (setObj_at (lt_of_block K1.out) _) Tryz.underlying40 rfl (by kernel_rfl)) rfl ?_
    exact ⟨rfl, HE.out _ _ _⟩
  rw [e1, if_neg (by omega)]
  clear e1
  by_cases c3 : 4611686018427387904 ≤ now
  · rw [if_pos c3]
    go_enter Tryz.func42, Tryz.ntmps42
    go_upto_region 1 with (fail)
    rw [← HB.out]
    clear hw1 hbx
    go_wp2
    rw [three_setC K1.out]
    refine bodyPost_ret (results_rowT rfl _ _ bx _ _ (0, 0) _ rfl (setObj_at (lt_of_block K1.out) _) Tryz.underlying40 rfl (by kernel_rfl)) rfl ?_
    exact ⟨rfl, HE.out _ _ _⟩
  rw [if_neg c3]
  by_cases c4 : 0 < held
  · rw [if_pos c4]
    go_enter Tryz.func42, Tryz.ntmps42
    go_upto_region 1 with (fail)
    rw [← HB.out]
    clear hw1 hbx
    go_wp2
    rw [three_setC K1.out]
    refine bodyPost_ret (results_rowT rfl _ _ bx _ _ (0, 0) _ rfl (setObj_at (lt_of_block K1.out) _) Tryz.underlying40 rfl (by kernel_rfl)) rfl ?_
    exact ⟨rfl, HE.out _ _ _⟩
  rw [if_neg c4]
  go_enter Tryz.func42, Tryz.ntmps42
  go_upto_region 1 with (fail)
  rw [← HB.out]
  clear hw1 hbx
  go_wp2
  rw [three_setC K1.out]
  refine bodyPost_ret (results_rowT rfl _ _ bx _ _ (0, 0) _ rfl (setObj_at (lt_of_block K1.out) _) Tryz.underlying40 rfl (by kernel_rfl)) rfl ?_
  exact ⟨rfl, HE.out _ _ _⟩
/-- a check came to a verdict. -/
def LmS.count (s : LmS) (v : Int) : LmS := if v = 1 then { s with al := s.al + 1 } else if v = 2 then { s with de := s.de + 1 } else if v = 3 then { s with ba := s.ba + 1 } else s
theorem lmcount_any (v r t : Int) (hv : v = 1 ∨ v = 2 ∨ v = 3) (hb : (0 ≤ s.al ∧ s.al ≤ 1152921504606846976) ∧ (0 ≤ s.de ∧ s.de ≤ 1152921504606846976) ∧ (0 ≤ s.ba ∧ s.ba ≤ 1152921504606846976)) (w : World) (h : LmAt w N s) :
    Calls Tryz.prog 55 #[.pointer (some ⟨N.l, 0, none⟩), ansV v r t] w fun e w' => e = .returned (.tuple #[]) ∧ LmAt w' N (s.count v) ∧ Fr (fun k => k = N.l) w w' := by
  obtain ⟨w1, hw1, k1, l1, s1⟩ := box_new w #[.int .i64 v, .int .i64 r, .int .i64 t] 40
  have H1 := Lib.hid (h.keep l1)
  have L1 := Lib.hid l1
  have kl := H1.out.hl.rd
  have klw := H1.out.hl.wr
  obtain ⟨bx, hbx⟩ : ∃ bx, bx = w.heap.size := ⟨_, rfl⟩
  rw [← hbx] at k1
  have kr := k1.rd
  obtain ⟨⟨a1, a2⟩, ⟨d1, d2⟩, b1, b2⟩ := hb
  clear h l1 s1 k1
  rcases hv with rfl | rfl | rfl
  · have e1 : s.count 1 = { s with al := s.al + 1 } := rfl
    rw [e1]
    go_enter Tryz.func55, Tryz.ntmps55
    go_upto_region 1 with (fail)
    rw [← hbx]
    clear hw1 hbx
    go_wp2
    rw [setCell_obj H1.out.hl]
    simp only [List.setIfInBounds_toArray, List.set_cons_zero, List.set_cons_succ]
    refine bodyPost_end (results_none rfl _ _ _) rfl ?_
    have hf := Fr.setObj (F := fun k => k = N.l) (Fr.refl _ w1) rfl (.cells (limC N (s.al + 1) s.de s.ba) 92 (0, 0))
    exact ⟨rfl, H1.out.cnts (setObj_at (lt_of_block H1.out.hl) _) hf, (Fr.of_below L1.out).trans hf⟩
  · have e1 : s.count 2 = { s with de := s.de + 1 } := rfl
    rw [e1]
    go_enter Tryz.func55, Tryz.ntmps55
    go_upto_region 1 with (fail)
    rw [← hbx]
    clear hw1 hbx
    go_wp2
    rw [setCell_obj H1.out.hl]
    simp only [List.setIfInBounds_toArray, List.set_cons_zero, List.set_cons_succ]
    refine bodyPost_end (results_none rfl _ _ _) rfl ?_
    have hf := Fr.setObj (F := fun k => k = N.l) (Fr.refl _ w1) rfl (.cells (limC N s.al (s.de + 1) s.ba) 92 (0, 0))
    exact ⟨rfl, H1.out.cnts (setObj_at (lt_of_block H1.out.hl) _) hf, (Fr.of_below L1.out).trans hf⟩
  · have e1 : s.count 3 = { s with ba := s.ba + 1 } := rfl
    rw [e1]
    go_enter Tryz.func55, Tryz.ntmps55
    go_upto_region 1 with (fail)
    rw [← hbx]
    clear hw1 hbx
    go_wp2
    rw [setCell_obj H1.out.hl]
    simp only [List.setIfInBounds_toArray, List.set_cons_zero, List.set_cons_succ]
    refine bodyPost_end (results_none rfl _ _ _) rfl ?_
    have hf := Fr.setObj (F := fun k => k = N.l) (Fr.refl _ w1) rfl (.cells (limC N s.al s.de (s.ba + 1)) 92 (0, 0))
    exact ⟨rfl, H1.out.cnts (setObj_at (lt_of_block H1.out.hl) _) hf, (Fr.of_below L1.out).trans hf⟩
end
end Go.Proofs.YtbgcpljekcagiaaGreat
/- The contracts of layer 12 (limiter): a pool's cells are taken from; left, judge. -/
namespace Go.Proofs.YtbgcpljekcagiaaGreat
set_option linter.unusedSimpArgs false
set_option linter.unusedVariables false
set_option maxRecDepth 100000
open Go.ChangeShapes Go.WideShapes Go.ChangeAt Go.RowKit
open Ar (inR)
/-- a cell at a place of a row of cells, changed where Take changes it. -/
theorem rws_take2 {C : List Cel} {i : Nat} {c : Cel} (hi : C[i]? = some c) (F' D' : Int) :
    ((rws encC C).toArray.setIfInBounds (i * 4) (.int .i64 F')).setIfInBounds (i * 4 + 3) (.int .i64 D') = (rws encC (C.set i (F', c.2.1, c.2.2.1, D'))).toArray := by
  have hil : i < C.length := (List.getElem?_eq_some_iff.1 hi).1
  have hl := rws_length encC_len C
  have hl2 := rws_length encC_len (C.set i (F', c.2.1, c.2.2.1, D'))
  rw [List.length_set] at hl2
  rw [List.setIfInBounds_toArray, List.setIfInBounds_toArray]
  congr 1
  refine List.ext_getElem? fun k => ?_
  rcases Nat.lt_or_ge k (C.length * 4) with hk | hk
  · obtain ⟨q, r, hr, rfl⟩ : ∃ q r, r < 4 ∧ k = q * 4 + r := ⟨k / 4, k % 4, by omega, by omega⟩
    have hq : q < C.length := by omega
    by_cases hqi : q = i
    · subst hqi
      rw [rws_get encC_len (C.set q _) q r (F', c.2.1, c.2.2.1, D') (by rw [List.getElem?_set_self hil]) hr]
      have hg : ∀ j, j < 4 → (rws encC C)[q * 4 + j]? = (encC c)[j]? := fun j hj => rws_get encC_len C q j c hi hj
      match r, hr with
      | 0, _ => rw [List.getElem?_set_ne (by omega), show q * 4 + 0 = q * 4 by omega, List.getElem?_set_self (by rw [hl]; omega)]; rfl
      | 1, _ => rw [List.getElem?_set_ne (by omega), List.getElem?_set_ne (by omega), hg 1 (by omega)]; rfl
      | 2, _ => rw [List.getElem?_set_ne (by omega), List.getElem?_set_ne (by omega), hg 2 (by omega)]; rfl
      | 3, _ => rw [List.getElem?_set_self (by rw [List.length_set, hl]; omega)]; rfl
    · obtain ⟨d, hd⟩ : ∃ d, C[q]? = some d := ⟨_, List.getElem?_eq_getElem hq⟩
      rw [List.getElem?_set_ne (by omega), List.getElem?_set_ne (by omega), rws_get encC_len C q r d hd hr, rws_get encC_len (C.set i _) q r d (by rw [List.getElem?_set_ne (Ne.symm hqi)]; exact hd) hr]
  · rw [List.getElem?_eq_none (by rw [List.length_set, List.length_set, hl]; omega), List.getElem?_eq_none (by rw [hl2]; omega)]
section
variable {Q : PlN} {σ : KSt} {C : List Cel} {U W B L t cost : Int} {c : Cel} {i : Nat}
/-- how much a cell has left, and how long it is to a cost. -/
abbrev celR (c : Cel) (U W B L t : Int) : Int := roomP c.1 c.2.1 c.2.2.1 c.2.2.2 U W B L t
abbrev celW (c : Cel) (U W B L t cost : Int) : Int := waitP c.1 c.2.1 c.2.2.1 c.2.2.2 U W B L t cost
abbrev celG (c : Cel) (U W B L t : Int) : Prop := Rng c.1 c.2.1 c.2.2.1 c.2.2.2 U W B L t
/-- a cell, when a cost was taken from it. -/
def celT (c : Cel) (U t cost : Int) : Cel := (max c.1 t + cost * U, c.2.1, c.2.2.1, c.2.2.2 + cost)
theorem PlAt.row4 {w : World} (h : PlAt w Q σ C) (hi : C[i]? = some c) : ((rws encC C).toArray)[i * 4]? = some (.int .i64 c.1) ∧ ((rws encC C).toArray)[i * 4 + 1]? = some (.int .i64 c.2.1) ∧ ((rws encC C).toArray)[i * 4 + 2]? = some (.int .i64 c.2.2.1) ∧ ((rws encC C).toArray)[i * 4 + 3]? = some (.int .i64 c.2.2.2) := by
  obtain ⟨h0, h1, h2, h3⟩ := h.cell hi
  have hr := h.hc.rd
  exact ⟨(hr _).symm.trans h0, (hr _).symm.trans h1, (hr _).symm.trans h2, (hr _).symm.trans h3⟩
theorem pltake_no (w : World) (h : PlAt w Q σ C) (hi : C[i]? = some c) (hg : celG c U W B L t) (hc : 1 ≤ cost ∧ celR c U W B L t < cost) :
    Calls Tryz.prog 101 #[.pointer (some ⟨Q.cb, i * 4, none⟩), pv U W B L, .int .i64 t, .int .i64 cost] w fun e w' => e = .returned (.bool false) ∧ Below w.heap.size w w' := by
  obtain ⟨h1, h2, h3, h4, h5⟩ := hg.clamps
  have hb := hg.bu
  obtain ⟨hF, hS, hC, hD, hU, hW, hB, hL, ht⟩ := hg
  exact take_no_at c.1 c.2.1 c.2.2.1 c.2.2.2 U W B L t cost (by unfold inR; omega) (by unfold inR; omega) (by unfold inR; omega) (by omega) (by unfold inR; omega) (by unfold inR; omega) (by unfold inR; omega) (by unfold inR; omega) h3 h2 hc.1 (by rw [h1]; exact hc.2) w Q.cb (i * 4) _ _ h.hc (h.row4 hi)
theorem pltake_yes (w : World) (h : PlAt w Q σ C) (hi : C[i]? = some c) (hg : celG c U W B L t) (hc : 1 ≤ cost ∧ cost ≤ celR c U W B L t) :
    Calls Tryz.prog 101 #[.pointer (some ⟨Q.cb, i * 4, none⟩), pv U W B L, .int .i64 t, .int .i64 cost] w fun e w' => e = .returned (.bool true) ∧ PlAt w' Q σ (C.set i (celT c U t cost)) ∧ Fr (fun k => k = Q.cb) w w' := by
  obtain ⟨h1, h2, h3, h4, h5⟩ := hg.clamps
  have hcB : cost ≤ B := Int.le_trans hc.2 (room_hi (by have := hg.B; omega))
  obtain ⟨k1, k2, k3, k4⟩ := hg.kb ⟨hc.1, hcB⟩
  have hb := hg.bu
  obtain ⟨hF, hS, hC, hD, hU, hW, hB, hL, ht⟩ := hg
  have := take_yes_at c.1 c.2.1 c.2.2.1 c.2.2.2 U W B L t cost (by unfold inR; omega) (by unfold inR; omega) (by unfold inR; omega) (by omega) (by unfold inR; omega) (by unfold inR; omega) (by unfold inR; omega) (by unfold inR; omega) h3 h2 (by unfold inR; omega) (by unfold inR; omega) (by unfold inR; omega) (by rw [h1]; exact hc) w Q.cb (i * 4) _ _ h.hc (h.row4 hi)
  rw [show clamp (cost * U) = cost * U from clamp_in (by unfold inR; omega), show clamp (max c.1 t + cost * U) = max c.1 t + cost * U from clamp_in (by unfold inR; omega), rws_take2 hi] at this
  refine this.mono ?_
  rintro e w' ⟨rfl, b1, f1⟩
  refine ⟨rfl, ⟨h.hp.fr f1 h.ne.1, b1, by rw [List.length_set]; exact h.len, h.ix.fr f1 (fun k hk e => (h.ne.2 k hk).1 e), h.n1, h.ne⟩, f1⟩
end
section
variable {N : LmN} {s : LmS}
/-- how much the ring leaves a key at once. -/
def LmS.left (s : LmS) (N : LmN) (key : ByteArray) : Int := max 0 (min (N.L - estZ N.R s.r key) N.B)
theorem lmleft_any (key : ByteArray) (hs : key.size ≤ maxLen) (w : World) (h : LmAt w N s) (hL : 0 ≤ N.L ∧ N.L ≤ 9223372036854775807) (hB : inR N.B) :
    Calls Tryz.prog 47 #[.pointer (some ⟨N.l, 0, none⟩), .string key] w fun e w' => e = .returned (.int .i64 (s.left N key)) ∧ Below w.heap.size w w' := by
  have ee := estZ_in h.hr key
  have ed : s.left N key = max 0 (min (N.L - estZ N.R s.r key) N.B) := rfl
  have CE := Lib.hid (fun wx (hb : Below w.heap.size w wx) => show Calls Tryz.prog 83 #[.pointer (some ⟨N.R.x, 0, none⟩), .string key] wx (fun e w' => e = .returned (.int .i64 (estZ N.R s.r key)) ∧ (∀ (i : Nat), w'.cell? { block := N.l, off := i } = (limC N s.al s.de s.ba)[i]?) ∧ Below w.heap.size w w') from (restimate_any key hs wx (h.hr.keep hb)).mono (fun e w' hh => ⟨hh.1, (h.hl.keep (below_in hb hh.2)).rd, below_in hb hh.2⟩))
  obtain ⟨est, hest⟩ : ∃ x, x = estZ N.R s.r key := ⟨_, rfl⟩
  rw [← hest] at CE ee ed
  rw [ed]
  have k := h.hl.rd
  unfold inR at hB
  clear h hest ed
  go_enter Tryz.func47, Tryz.ntmps47
  go_upto_region 1 with (fail)
  have y2 : Below w.heap.size w w.drew := below_draws (Below.refl _ _) 1
  have k2 : ∀ (i : Nat), w.drew.cell? { block := N.l, off := i } = (limC N s.al s.de s.ba)[i]? := k
  go_region_held3 (fun w' => (∀ (i : Nat), w'.cell? { block := N.l, off := i } = (limC N s.al s.de s.ba)[i]?) ∧ Below w.heap.size w w') (refine ⟨?_, ?_⟩ <;> assumption)
    (first
      | (go_at_call 83; ((with_reducible refine (CE.out _ (by assumption)).mono ?_); rintro e w2 ⟨rfl, z1, z2⟩)))
  go_wp2
  have ew : IntKind.i64.wrap (N.L - est) = N.L - est := by rw [IntKind.wrap_i64]; omega
  go_ret
  exact ⟨ret_i (by rw [ew]), by assumption⟩
end
end Go.Proofs.YtbgcpljekcagiaaGreat
/- The contracts of layer 12 (limiter): judge. -/
namespace Go.Proofs.YtbgcpljekcagiaaGreat
set_option linter.unusedSimpArgs false
set_option linter.unusedVariables false
set_option maxRecDepth 100000
open Go.ChangeShapes Go.WideShapes Go.ChangeAt Go.RowKit
open Ar (inR)
section
variable {N : LmN} {s : LmS}
/-- a cost is allowed or denied, by the key's cell or by the ring. -/
def LmS.judge (s : LmS) (N : LmN) (now : Int) (key : ByteArray) (cost : Int) : (Int × Int × Int) × LmS :=
  match posN N.Q.N.n s.σ.K key with
  | some i =>
    if cost ≤ celR (s.C.getD i (0, 0, 0, 0)) N.U N.W N.B N.L now then
      ((1, celR (celT (s.C.getD i (0, 0, 0, 0)) N.U now cost) N.U N.W N.B N.L now, 0), { s with C := s.C.set i (celT (s.C.getD i (0, 0, 0, 0)) N.U now cost) })
    else ((2, celR (s.C.getD i (0, 0, 0, 0)) N.U N.W N.B N.L now, celW (s.C.getD i (0, 0, 0, 0)) N.U N.W N.B N.L now cost), s)
  | none =>
    if clamp (estZ N.R s.r key + cost) ≤ N.L then ((1, ({ s with r := s.r.add N.R key cost } : LmS).left N key, 0), { s with r := s.r.add N.R key cost })
    else ((2, s.left N key, waitR N.R s.r key cost), s)
/-- the numbers of a limiter that its calls ask for. -/
structure LmG (N : LmN) (s : LmS) (now : Int) : Prop where
  c : ∀ c ∈ s.C, celG c N.U N.W N.B N.L now ∧ c.2.2.2 ≤ 576460752303423488
  t : s.r.t ≤ 4611686018427387904
  n : 0 ≤ now ∧ now ≤ 4611686018427387904
  U : 1 ≤ N.U ∧ N.U ≤ 1048576
  W : 1 ≤ N.W ∧ N.W ≤ 1048576
  B : 1 ≤ N.B ∧ N.B ≤ 1048576
  L : 1 ≤ N.L ∧ N.L ≤ 1048576
theorem celT_G {c : Cel} {U W B L t cost : Int} (h : celG c U W B L t) (hD : c.2.2.2 ≤ 576460752303423488) (hc : 1 ≤ cost ∧ cost ≤ celR c U W B L t) : celG (celT c U t cost) U W B L t := by
  have hcB : cost ≤ B := Int.le_trans hc.2 (room_hi (by have := h.B; omega))
  have h1 := (take_leaves h hc).1
  have hb := h.bu
  have hcu := (h.kb ⟨hc.1, hcB⟩).2.2.2
  obtain ⟨hF, hS, hC, hDD, hU, hW, hB, hL, ht⟩ := h
  exact ⟨by show 0 ≤ max c.1 t + cost * U ∧ max c.1 t + cost * U ≤ _; omega, hS, hC, by show 0 ≤ c.2.2.2 + cost ∧ c.2.2.2 + cost ≤ _; omega, hU, hW, hB, hL, ht⟩
theorem RgS.now_le (r : RgS) (R : RgN) (hs : 1 ≤ R.s) (ht : 0 ≤ r.t ∧ r.t ≤ 4611686018427387904) : r.now R ≤ 9223372036854775000 := by
  unfold RgS.now
  have : r.t / (R.s : Int) ≤ r.t := Int.ediv_le_self _ ht.1
  omega
set_option maxHeartbeats 4000000 in
theorem lmjudge_any (now : Int) (key : ByteArray) (cost : Int) (hs : key.size ≤ maxLen) (hc : 1 ≤ cost ∧ cost ≤ N.B) (w : World) (h : LmAt w N s) (hg : LmG N s now) :
    Calls Tryz.prog 58 #[.pointer (some ⟨N.l, 0, none⟩), .int .i64 now, .string key, .int .i64 cost] w fun e w' => e = .returned (ansT (s.judge N now key cost).1) ∧ LmAt w' N (s.judge N now key cost).2 ∧ Fr N.all w w' := by
  obtain ⟨w1, hw1, k1, l1, s1⟩ := box_new w #[.int .i64 0, .int .i64 0, .int .i64 0] 40
  obtain ⟨bx, hbx⟩ : ∃ bx, bx = w.heap.size := ⟨_, rfl⟩
  have CF := Lib.hid (plfind_any key hs w1 (h.hp.keep l1))
  have H1 := Lib.hid (h.keep l1)
  have HLT := Lib.hid (show ∀ k, N.all k → k ≠ bx from fun k hk e => by have := h.lt k hk; omega)
  rw [← hbx] at k1
  have K1 := Lib.hid k1
  have L1 := Lib.hid l1
  have HB := Lib.hid hbx
  have kl := H1.out.hl.rd
  have ej : s.judge N now key cost = match posN N.Q.N.n s.σ.K key with
      | some i => _
      | none => _ := rfl
  rw [ej]
  have hlen := h.hp.len
  have hpos : ∀ i, posN N.Q.N.n s.σ.K key = some i → i < s.C.length := fun i hi => by rw [hlen]; exact (posN_some hi).1
  clear ej k1 l1 s1 h
  cases hp : posN N.Q.N.n s.σ.K key with
  | some i =>
    rw [hp] at CF
    have hil := hpos i hp
    obtain ⟨c, hci⟩ : ∃ c, s.C[i]? = some c := ⟨_, List.getElem?_eq_getElem hil⟩
    have hcD : s.C.getD i (0, 0, 0, 0) = c := by rw [List.getD_eq_getElem?_getD, hci]; rfl
    have hG := hg.c c (List.mem_of_getElem? hci)
    simp only [hcD]
    by_cases hle : cost ≤ celR c N.U N.W N.B N.L now
    · rw [if_pos hle]
      have hG2 := celT_G hG.1 hG.2 ⟨hc.1, hle⟩
      have CT := Lib.hid (fun wx (hx : PlAt wx N.Q s.σ s.C) => pltake_yes wx hx hci hG.1 ⟨hc.1, hle⟩)
      obtain ⟨c', hc'⟩ : ∃ c', c' = celT c N.U now cost := ⟨_, rfl⟩
      rw [← hc'] at CT hG2
      simp only [← hc']
      have CR := Lib.hid (fun wx => show Calls Tryz.prog 45 #[celV c', pv N.U N.W N.B N.L, .int .i64 now] wx (fun e w' => e = .returned (.int .i64 (celR c' N.U N.W N.B N.L now)) ∧ Below wx.heap.size wx w') from room_rng hG2 wx)
      obtain ⟨rm, hrm⟩ : ∃ rm, rm = celR c' N.U N.W N.B N.L now := ⟨_, rfl⟩
      rw [← hrm] at CR
      simp only [← hrm]
      have CF := Lib.hid (show Calls Tryz.prog 68 #[.pointer (some ⟨N.Q.p, 0, none⟩), .string key] w1 (fun e w' => e = .returned (.pointer (some ⟨N.Q.cb, i * 4, none⟩)) ∧ Below w1.heap.size w1 w') from CF.out)
      have HSI := Lib.hid (show (s.C.set i c')[i]? = some c' from List.getElem?_set_self hil)
      have HCB := Lib.hid (show N.all N.Q.cb from Or.inl (Or.inl (Or.inl (Or.inr rfl))))
      have kw := K1.out.wr
      clear hc' hrm hG hG2 hci hcD hle hpos hp hil
      go_enter Tryz.func58, Tryz.ntmps58
      go_upto_region 1 with (fail)
      rw [← HB.out]
      clear hw1 hbx
      go_upto_region 4 with (first
        | (go_at_call 68; ((with_reducible refine CF.out.mono ?_); rintro e w2 ⟨rfl, b2⟩; have H2 := Lib.hid (H1.out.keep b2); have kl2 := H2.out.hl.rd; have K2 := Lib.hid (K1.out.keep b2); have B2 := Lib.hid (below_in L1.out b2); clear b2))
        | (go_at_call 101; ((with_reducible refine (CT.out _ H2.out.hp).mono ?_); rintro e w3 ⟨rfl, p3, f3⟩; have H3 := Lib.hid (H2.out.pool p3 f3 (fun k e => Or.inl (Or.inr e))); have K3 := Lib.hid (K2.out.fr f3 (fun e => HLT.out _ HCB.out e.symm)); have F3 := Lib.hid ((Fr.of_below B2.out).trans (f3.mono (fun k e => show N.all k from by rw [e]; exact HCB.out))); clear p3 f3)))
      clear kl kw kl2
      have ST := Lib.hid (fun (Wo : World) (hW : LmAt Wo N { s with C := s.C.set i c' }) => And.intro hW.hl.rd (hW.hp.cell HSI.out))
      have BN := Lib.hid (show Below w3.heap.size w3 w3.drew from below_draws (Below.refl _ _) 1)
      have st := ST.out _ (H3.out.keep BN.out)
      refine wp_region_held_drew (S := fun Wo => (∀ j, Wo.cell? ⟨N.l, j, none⟩ = (limC N s.al s.de s.ba)[j]?) ∧ Wo.cell? ⟨N.Q.cb, i * 4, none⟩ = some (.int .i64 c'.1) ∧ Wo.cell? ⟨N.Q.cb, i * 4 + 1, none⟩ = some (.int .i64 c'.2.1) ∧ Wo.cell? ⟨N.Q.cb, i * 4 + 2, none⟩ = some (.int .i64 c'.2.2.1) ∧ Wo.cell? ⟨N.Q.cb, i * 4 + 3, none⟩ = some (.int .i64 c'.2.2.2)) (by kernel_rfl) st (fun hHeld => ?_)
      clear st
      refine wpAnyH_take (i := 0) (oi := ?_) (v := ?_) ?_ ?_ ?_ ?_ ?_ ?_ ?_ ?_
      rotate_left 2
      · simp only [List.getElem?_toArray, List.getElem?_cons_succ, List.getElem?_cons_zero]; rfl
      · kernel_rfl
      · kernel_rfl
      · kernel_rfl
      · exact fun _ _ _ h => h
      · refine Or.inl ⟨by rfl, ?_⟩
        intro w' hSw
        (try dsimp only at hSw)
        go_simp
        all_goals (with_reducible rfl)
      · assumption
      try simp only [Act.put, List.setIfInBounds_toArray, List.set_cons_zero, List.set_cons_succ]
      refine wpAnyH_take (i := 1) (oi := ?_) (v := ?_) ?_ ?_ ?_ ?_ ?_ ?_ ?_ ?_
      rotate_left 2
      · simp only [List.getElem?_toArray, List.getElem?_cons_succ, List.getElem?_cons_zero]; rfl
      · kernel_rfl
      · kernel_rfl
      · kernel_rfl
      · exact fun _ _ _ h => h
      · refine Or.inl ⟨by rfl, ?_⟩
        intro w' hSw
        (try dsimp only at hSw)
        go_simp
        all_goals (with_reducible rfl)
      · assumption
      try simp only [Act.put, List.setIfInBounds_toArray, List.set_cons_zero, List.set_cons_succ]
      refine wpAnyH_take (i := 2) (oi := ?_) (v := ?_) ?_ ?_ ?_ ?_ ?_ ?_ ?_ ?_
      rotate_left 2
      · simp only [List.getElem?_toArray, List.getElem?_cons_succ, List.getElem?_cons_zero]; rfl
      · kernel_rfl
      · kernel_rfl
      · kernel_rfl
      · exact fun _ _ _ h => h
      · refine Or.inl ⟨by rfl, ?_⟩
        intro w' hSw
        (try dsimp only at hSw)
        go_simp
        all_goals (with_reducible rfl)
      · assumption
      try simp only [Act.put, List.setIfInBounds_toArray, List.set_cons_zero, List.set_cons_succ]
      refine wpAnyH_take (i := 3) (oi := ?_) (v := ?_) ?_ ?_ ?_ ?_ ?_ ?_ ?_ ?_
      rotate_left 2
      · simp only [List.getElem?_toArray, List.getElem?_cons_succ, List.getElem?_cons_zero]; rfl
      · kernel_rfl
      · kernel_rfl
      · kernel_rfl
      · exact fun _ _ _ h => h
      · refine Or.inl ⟨by rfl, ?_⟩
        intro w' hSw
        (try dsimp only at hSw)
        go_simp
        all_goals (with_reducible rfl)
      · assumption
      try simp only [Act.put, List.setIfInBounds_toArray, List.set_cons_zero, List.set_cons_succ]
      refine wpAnyH_take (i := 4) (oi := ?_) (v := ?_) ?_ ?_ ?_ ?_ ?_ ?_ ?_ ?_
      rotate_left 2
      · simp only [List.getElem?_toArray, List.getElem?_cons_succ, List.getElem?_cons_zero]; rfl
      · kernel_rfl
      · kernel_rfl
      · kernel_rfl
      · exact fun _ _ _ h => h
      · refine Or.inl ⟨by rfl, ?_⟩
        intro w' hSw
        (try dsimp only at hSw)
        go_simp
        all_goals (with_reducible rfl)
      · assumption
      try simp only [Act.put, List.setIfInBounds_toArray, List.set_cons_zero, List.set_cons_succ]
      refine wpAnyH_take (i := 5) (oi := ?_) (v := ?_) ?_ ?_ ?_ ?_ ?_ ?_ ?_ ?_
      rotate_left 2
      · simp only [List.getElem?_toArray, List.getElem?_cons_succ, List.getElem?_cons_zero]; rfl
      · kernel_rfl
      · kernel_rfl
      · kernel_rfl
      · exact fun _ _ _ h => h
      · refine Or.inl ⟨by rfl, ?_⟩
        intro w' hSw
        (try dsimp only at hSw)
        go_simp
        all_goals (with_reducible rfl)
      · assumption
      try simp only [Act.put, List.setIfInBounds_toArray, List.set_cons_zero, List.set_cons_succ]
      refine wpAnyH_take (i := 6) (oi := ?_) (v := ?_) ?_ ?_ ?_ ?_ ?_ ?_ ?_ ?_
      rotate_left 2
      · simp only [List.getElem?_toArray, List.getElem?_cons_succ, List.getElem?_cons_zero]; rfl
      · kernel_rfl
      · kernel_rfl
      · kernel_rfl
      · exact fun _ _ _ h => h
      · refine Or.inl ⟨by rfl, ?_⟩
        intro w' hSw
        (try dsimp only at hSw)
        go_simp
        all_goals (with_reducible rfl)
      · assumption
      try simp only [Act.put, List.setIfInBounds_toArray, List.set_cons_zero, List.set_cons_succ]
      refine wpAnyH_take (i := 7) (oi := ?_) (v := ?_) ?_ ?_ ?_ ?_ ?_ ?_ ?_ ?_
      rotate_left 2
      · simp only [List.getElem?_toArray, List.getElem?_cons_succ, List.getElem?_cons_zero]; rfl
      · kernel_rfl
      · kernel_rfl
      · kernel_rfl
      · exact fun _ _ _ h => h
      · refine Or.inl ⟨by rfl, ?_⟩
        intro w' hSw
        (try dsimp only at hSw)
        go_simp
        all_goals (with_reducible rfl)
      · assumption
      try simp only [Act.put, List.setIfInBounds_toArray, List.set_cons_zero, List.set_cons_succ]
      refine wpAnyH_ready (rs := [8]) (by kernel_rfl) (by simp) ?_
      refine AllReadyH.cons (o := ?_) ?_ ?_ ?_
      rotate_left 1
      · simp only [List.getElem?_toArray, List.getElem?_cons_succ, List.getElem?_cons_zero]; rfl
      rotate_left 1
      · exact AllReadyH.nil
      intro K hK
      go_simp
      ((with_reducible refine (CR.out _).mono ?_); rintro e w8 ⟨rfl, be⟩; have N8 := Lib.hid (G.below_on BN.out be); have K8 := Lib.hid (K3.out.keep N8.out); have kw8 := K8.out.wr; have kr8 := K8.out.rd; clear be)
      refine hK.out _ _ (ST.out _ (H3.out.keep N8.out)) (fun hHeld => ?_)
      clear hK K
      try simp only [Act.put, List.setIfInBounds_toArray, List.set_cons_zero, List.set_cons_succ]
      refine wpAnyH_take (i := 9) (oi := ?_) (v := ?_) ?_ ?_ ?_ ?_ ?_ ?_ ?_ ?_
      rotate_left 2
      · simp only [List.getElem?_toArray, List.getElem?_cons_succ, List.getElem?_cons_zero]; rfl
      · kernel_rfl
      · kernel_rfl
      · kernel_rfl
      · exact fun _ _ _ h => h
      · refine Or.inl ⟨by rfl, ?_⟩
        intro w' hSw
        (try dsimp only at hSw)
        go_simp
        all_goals (with_reducible rfl)
      · assumption
      try simp only [Act.put, List.setIfInBounds_toArray, List.set_cons_zero, List.set_cons_succ]
      refine wpAnyH_ready (rs := [10]) (by kernel_rfl) (by simp) ?_
      refine AllReadyH.cons (o := ?_) ?_ ?_ ?_
      rotate_left 1
      · simp only [List.getElem?_toArray, List.getElem?_cons_succ, List.getElem?_cons_zero]; rfl
      rotate_left 1
      · exact AllReadyH.nil
      intro K hK
      go_simp
      rw [three_setC K8.out]
      refine hK.out _ _ (ST.out _ ((H3.out.keep N8.out).fr (Fr.setObj (F := fun k => k = bx) (Fr.refl _ _) rfl _) (fun k hk e => HLT.out k hk e))) (fun hHeld => ?_)
      clear hK K
      try simp only [Act.put, List.setIfInBounds_toArray, List.set_cons_zero, List.set_cons_succ]
      refine wpAnyH_done (by kernel_rfl) ?_ _
      clear hHeld
      go_wp2
      refine bodyPost_ret (results_cell_row rfl _ _ bx _ _ (0, 0) _ rfl (setObj_at (lt_of_block K8.out) _) Tryz.underlying40 rfl (by kernel_rfl)) rfl ?_
      refine ⟨rfl, (H3.out.keep N8.out).fr (Fr.setObj (F := fun k => k = bx) (Fr.refl _ _) rfl _) (fun k hk e => HLT.out k hk e), ?_⟩
      exact Fr.drop_new (F := N.all) (s := bx) (Fr.setObj (F := fun k => N.all k ∨ k = bx) ((F3.out.trans (Fr.of_below N8.out)).mono (fun k hk => Or.inl hk)) (Or.inr rfl) _) (by have := HB.out; omega)
    · rw [if_neg hle]
      have CT := Lib.hid (fun wx (hx : PlAt wx N.Q s.σ s.C) => pltake_no wx hx hci hG.1 ⟨hc.1, by omega⟩)
      have CR := Lib.hid (fun wx => show Calls Tryz.prog 45 #[celV c, pv N.U N.W N.B N.L, .int .i64 now] wx (fun e w' => e = .returned (.int .i64 (celR c N.U N.W N.B N.L now)) ∧ Below wx.heap.size wx w') from room_rng hG.1 wx)
      have CW := Lib.hid (fun wx => show Calls Tryz.prog 46 #[celV c, pv N.U N.W N.B N.L, .int .i64 now, .int .i64 cost] wx (fun e w' => e = .returned (.int .i64 (celW c N.U N.W N.B N.L now cost)) ∧ Below wx.heap.size wx w') from wait_rng hG.1 hc wx)
      obtain ⟨rm, hrm⟩ : ∃ rm, rm = celR c N.U N.W N.B N.L now := ⟨_, rfl⟩
      obtain ⟨wt, hwt⟩ : ∃ wt, wt = celW c N.U N.W N.B N.L now cost := ⟨_, rfl⟩
      rw [← hrm] at CR
      rw [← hwt] at CW
      simp only [← hrm, ← hwt]
      have CF := Lib.hid (show Calls Tryz.prog 68 #[.pointer (some ⟨N.Q.p, 0, none⟩), .string key] w1 (fun e w' => e = .returned (.pointer (some ⟨N.Q.cb, i * 4, none⟩)) ∧ Below w1.heap.size w1 w') from CF.out)
      have HSI := Lib.hid hci
      have kw := K1.out.wr
      clear hrm hwt hG hci hcD hle hpos hp hil
      go_enter Tryz.func58, Tryz.ntmps58
      go_upto_region 1 with (fail)
      rw [← HB.out]
      clear hw1 hbx
      go_upto_region 5 with (first
        | (go_at_call 68; ((with_reducible refine CF.out.mono ?_); rintro e w2 ⟨rfl, b2⟩; have H2 := Lib.hid (H1.out.keep b2); have kl2 := H2.out.hl.rd; have K2 := Lib.hid (K1.out.keep b2); have B2 := Lib.hid (below_in L1.out b2); clear b2))
        | (go_at_call 101; ((with_reducible refine (CT.out _ H2.out.hp).mono ?_); rintro e w3 ⟨rfl, b3⟩; have H3 := Lib.hid (H2.out.keep b3); have K3 := Lib.hid (K2.out.keep b3); have B3 := Lib.hid (below_in B2.out b3); clear b3)))
      clear kl kw kl2
      have ST := Lib.hid (fun (Wo : World) (hW : LmAt Wo N s) => And.intro hW.hl.rd (hW.hp.cell HSI.out))
      have BN := Lib.hid (show Below w3.heap.size w3 w3.drew from below_draws (Below.refl _ _) 1)
      have st := ST.out _ (H3.out.keep BN.out)
      refine wp_region_held_drew (S := fun Wo => (∀ j, Wo.cell? ⟨N.l, j, none⟩ = (limC N s.al s.de s.ba)[j]?) ∧ Wo.cell? ⟨N.Q.cb, i * 4, none⟩ = some (.int .i64 c.1) ∧ Wo.cell? ⟨N.Q.cb, i * 4 + 1, none⟩ = some (.int .i64 c.2.1) ∧ Wo.cell? ⟨N.Q.cb, i * 4 + 2, none⟩ = some (.int .i64 c.2.2.1) ∧ Wo.cell? ⟨N.Q.cb, i * 4 + 3, none⟩ = some (.int .i64 c.2.2.2)) (by kernel_rfl) st (fun hHeld => ?_)
      clear st
      refine wpAnyH_take (i := 0) (oi := ?_) (v := ?_) ?_ ?_ ?_ ?_ ?_ ?_ ?_ ?_
      rotate_left 2
      · simp only [List.getElem?_toArray, List.getElem?_cons_succ, List.getElem?_cons_zero]; rfl
      · kernel_rfl
      · kernel_rfl
      · kernel_rfl
      · exact fun _ _ _ h => h
      · refine Or.inl ⟨by rfl, ?_⟩
        intro w' hSw
        (try dsimp only at hSw)
        go_simp
        all_goals (with_reducible rfl)
      · assumption
      try simp only [Act.put, List.setIfInBounds_toArray, List.set_cons_zero, List.set_cons_succ]
      refine wpAnyH_take (i := 1) (oi := ?_) (v := ?_) ?_ ?_ ?_ ?_ ?_ ?_ ?_ ?_
      rotate_left 2
      · simp only [List.getElem?_toArray, List.getElem?_cons_succ, List.getElem?_cons_zero]; rfl
      · kernel_rfl
      · kernel_rfl
      · kernel_rfl
      · exact fun _ _ _ h => h
      · refine Or.inl ⟨by rfl, ?_⟩
        intro w' hSw
        (try dsimp only at hSw)
        go_simp
        all_goals (with_reducible rfl)
      · assumption
      try simp only [Act.put, List.setIfInBounds_toArray, List.set_cons_zero, List.set_cons_succ]
      refine wpAnyH_take (i := 2) (oi := ?_) (v := ?_) ?_ ?_ ?_ ?_ ?_ ?_ ?_ ?_
      rotate_left 2
      · simp only [List.getElem?_toArray, List.getElem?_cons_succ, List.getElem?_cons_zero]; rfl
      · kernel_rfl
      · kernel_rfl
      · kernel_rfl
      · exact fun _ _ _ h => h
      · refine Or.inl ⟨by rfl, ?_⟩
        intro w' hSw
        (try dsimp only at hSw)
        go_simp
        all_goals (with_reducible rfl)
      · assumption
      try simp only [Act.put, List.setIfInBounds_toArray, List.set_cons_zero, List.set_cons_succ]
      refine wpAnyH_take (i := 3) (oi := ?_) (v := ?_) ?_ ?_ ?_ ?_ ?_ ?_ ?_ ?_
      rotate_left 2
      · simp only [List.getElem?_toArray, List.getElem?_cons_succ, List.getElem?_cons_zero]; rfl
      · kernel_rfl
      · kernel_rfl
      · kernel_rfl
      · exact fun _ _ _ h => h
      · refine Or.inl ⟨by rfl, ?_⟩
        intro w' hSw
        (try dsimp only at hSw)
        go_simp
        all_goals (with_reducible rfl)
      · assumption
      try simp only [Act.put, List.setIfInBounds_toArray, List.set_cons_zero, List.set_cons_succ]
      refine wpAnyH_take (i := 4) (oi := ?_) (v := ?_) ?_ ?_ ?_ ?_ ?_ ?_ ?_ ?_
      rotate_left 2
      · simp only [List.getElem?_toArray, List.getElem?_cons_succ, List.getElem?_cons_zero]; rfl
      · kernel_rfl
      · kernel_rfl
      · kernel_rfl
      · exact fun _ _ _ h => h
      · refine Or.inl ⟨by rfl, ?_⟩
        intro w' hSw
        (try dsimp only at hSw)
        go_simp
        all_goals (with_reducible rfl)
      · assumption
      try simp only [Act.put, List.setIfInBounds_toArray, List.set_cons_zero, List.set_cons_succ]
      refine wpAnyH_take (i := 5) (oi := ?_) (v := ?_) ?_ ?_ ?_ ?_ ?_ ?_ ?_ ?_
      rotate_left 2
      · simp only [List.getElem?_toArray, List.getElem?_cons_succ, List.getElem?_cons_zero]; rfl
      · kernel_rfl
      · kernel_rfl
      · kernel_rfl
      · exact fun _ _ _ h => h
      · refine Or.inl ⟨by rfl, ?_⟩
        intro w' hSw
        (try dsimp only at hSw)
        go_simp
        all_goals (with_reducible rfl)
      · assumption
      try simp only [Act.put, List.setIfInBounds_toArray, List.set_cons_zero, List.set_cons_succ]
      refine wpAnyH_take (i := 6) (oi := ?_) (v := ?_) ?_ ?_ ?_ ?_ ?_ ?_ ?_ ?_
      rotate_left 2
      · simp only [List.getElem?_toArray, List.getElem?_cons_succ, List.getElem?_cons_zero]; rfl
      · kernel_rfl
      · kernel_rfl
      · kernel_rfl
      · exact fun _ _ _ h => h
      · refine Or.inl ⟨by rfl, ?_⟩
        intro w' hSw
        (try dsimp only at hSw)
        go_simp
        all_goals (with_reducible rfl)
      · assumption
      try simp only [Act.put, List.setIfInBounds_toArray, List.set_cons_zero, List.set_cons_succ]
      refine wpAnyH_take (i := 7) (oi := ?_) (v := ?_) ?_ ?_ ?_ ?_ ?_ ?_ ?_ ?_
      rotate_left 2
      · simp only [List.getElem?_toArray, List.getElem?_cons_succ, List.getElem?_cons_zero]; rfl
      · kernel_rfl
      · kernel_rfl
      · kernel_rfl
      · exact fun _ _ _ h => h
      · refine Or.inl ⟨by rfl, ?_⟩
        intro w' hSw
        (try dsimp only at hSw)
        go_simp
        all_goals (with_reducible rfl)
      · assumption
      try simp only [Act.put, List.setIfInBounds_toArray, List.set_cons_zero, List.set_cons_succ]
      refine wpAnyH_take (i := 9) (oi := ?_) (v := ?_) ?_ ?_ ?_ ?_ ?_ ?_ ?_ ?_
      rotate_left 2
      · simp only [List.getElem?_toArray, List.getElem?_cons_succ, List.getElem?_cons_zero]; rfl
      · kernel_rfl
      · kernel_rfl
      · kernel_rfl
      · exact fun _ _ _ h => h
      · refine Or.inl ⟨by rfl, ?_⟩
        intro w' hSw
        (try dsimp only at hSw)
        go_simp
        all_goals (with_reducible rfl)
      · assumption
      try simp only [Act.put, List.setIfInBounds_toArray, List.set_cons_zero, List.set_cons_succ]
      refine wpAnyH_take (i := 10) (oi := ?_) (v := ?_) ?_ ?_ ?_ ?_ ?_ ?_ ?_ ?_
      rotate_left 2
      · simp only [List.getElem?_toArray, List.getElem?_cons_succ, List.getElem?_cons_zero]; rfl
      · kernel_rfl
      · kernel_rfl
      · kernel_rfl
      · exact fun _ _ _ h => h
      · refine Or.inl ⟨by rfl, ?_⟩
        intro w' hSw
        (try dsimp only at hSw)
        go_simp
        all_goals (with_reducible rfl)
      · assumption
      try simp only [Act.put, List.setIfInBounds_toArray, List.set_cons_zero, List.set_cons_succ]
      refine wpAnyH_take (i := 11) (oi := ?_) (v := ?_) ?_ ?_ ?_ ?_ ?_ ?_ ?_ ?_
      rotate_left 2
      · simp only [List.getElem?_toArray, List.getElem?_cons_succ, List.getElem?_cons_zero]; rfl
      · kernel_rfl
      · kernel_rfl
      · kernel_rfl
      · exact fun _ _ _ h => h
      · refine Or.inl ⟨by rfl, ?_⟩
        intro w' hSw
        (try dsimp only at hSw)
        go_simp
        all_goals (with_reducible rfl)
      · assumption
      try simp only [Act.put, List.setIfInBounds_toArray, List.set_cons_zero, List.set_cons_succ]
      refine wpAnyH_take (i := 12) (oi := ?_) (v := ?_) ?_ ?_ ?_ ?_ ?_ ?_ ?_ ?_
      rotate_left 2
      · simp only [List.getElem?_toArray, List.getElem?_cons_succ, List.getElem?_cons_zero]; rfl
      · kernel_rfl
      · kernel_rfl
      · kernel_rfl
      · exact fun _ _ _ h => h
      · refine Or.inl ⟨by rfl, ?_⟩
        intro w' hSw
        (try dsimp only at hSw)
        go_simp
        all_goals (with_reducible rfl)
      · assumption
      try simp only [Act.put, List.setIfInBounds_toArray, List.set_cons_zero, List.set_cons_succ]
      refine wpAnyH_take (i := 13) (oi := ?_) (v := ?_) ?_ ?_ ?_ ?_ ?_ ?_ ?_ ?_
      rotate_left 2
      · simp only [List.getElem?_toArray, List.getElem?_cons_succ, List.getElem?_cons_zero]; rfl
      · kernel_rfl
      · kernel_rfl
      · kernel_rfl
      · exact fun _ _ _ h => h
      · refine Or.inl ⟨by rfl, ?_⟩
        intro w' hSw
        (try dsimp only at hSw)
        go_simp
        all_goals (with_reducible rfl)
      · assumption
      try simp only [Act.put, List.setIfInBounds_toArray, List.set_cons_zero, List.set_cons_succ]
      refine wpAnyH_take (i := 14) (oi := ?_) (v := ?_) ?_ ?_ ?_ ?_ ?_ ?_ ?_ ?_
      rotate_left 2
      · simp only [List.getElem?_toArray, List.getElem?_cons_succ, List.getElem?_cons_zero]; rfl
      · kernel_rfl
      · kernel_rfl
      · kernel_rfl
      · exact fun _ _ _ h => h
      · refine Or.inl ⟨by rfl, ?_⟩
        intro w' hSw
        (try dsimp only at hSw)
        go_simp
        all_goals (with_reducible rfl)
      · assumption
      try simp only [Act.put, List.setIfInBounds_toArray, List.set_cons_zero, List.set_cons_succ]
      refine wpAnyH_take (i := 15) (oi := ?_) (v := ?_) ?_ ?_ ?_ ?_ ?_ ?_ ?_ ?_
      rotate_left 2
      · simp only [List.getElem?_toArray, List.getElem?_cons_succ, List.getElem?_cons_zero]; rfl
      · kernel_rfl
      · kernel_rfl
      · kernel_rfl
      · exact fun _ _ _ h => h
      · refine Or.inl ⟨by rfl, ?_⟩
        intro w' hSw
        (try dsimp only at hSw)
        go_simp
        all_goals (with_reducible rfl)
      · assumption
      try simp only [Act.put, List.setIfInBounds_toArray, List.set_cons_zero, List.set_cons_succ]
      refine wpAnyH_take (i := 16) (oi := ?_) (v := ?_) ?_ ?_ ?_ ?_ ?_ ?_ ?_ ?_
      rotate_left 2
      · simp only [List.getElem?_toArray, List.getElem?_cons_succ, List.getElem?_cons_zero]; rfl
      · kernel_rfl
      · kernel_rfl
      · kernel_rfl
      · exact fun _ _ _ h => h
      · refine Or.inl ⟨by rfl, ?_⟩
        intro w' hSw
        (try dsimp only at hSw)
        go_simp
        all_goals (with_reducible rfl)
      · assumption
      try simp only [Act.put, List.setIfInBounds_toArray, List.set_cons_zero, List.set_cons_succ]
      refine wpAnyH_take (i := 17) (oi := ?_) (v := ?_) ?_ ?_ ?_ ?_ ?_ ?_ ?_ ?_
      rotate_left 2
      · simp only [List.getElem?_toArray, List.getElem?_cons_succ, List.getElem?_cons_zero]; rfl
      · kernel_rfl
      · kernel_rfl
      · kernel_rfl
      · exact fun _ _ _ h => h
      · refine Or.inl ⟨by rfl, ?_⟩
        intro w' hSw
        (try dsimp only at hSw)
        go_simp
        all_goals (with_reducible rfl)
      · assumption
      try simp only [Act.put, List.setIfInBounds_toArray, List.set_cons_zero, List.set_cons_succ]
      refine wpAnyH_ready (rs := [8]) (by kernel_rfl) (by simp) ?_
      refine AllReadyH.cons (o := ?_) ?_ ?_ ?_
      rotate_left 1
      · simp only [List.getElem?_toArray, List.getElem?_cons_succ, List.getElem?_cons_zero]; rfl
      rotate_left 1
      · exact AllReadyH.nil
      intro K hK
      go_simp
      ((with_reducible refine (CR.out _).mono ?_); rintro e w8 ⟨rfl, be⟩; have N8 := Lib.hid (G.below_on BN.out be); clear be)
      refine hK.out _ _ (ST.out _ (H3.out.keep N8.out)) (fun hHeld => ?_)
      clear hK K
      try simp only [Act.put, List.setIfInBounds_toArray, List.set_cons_zero, List.set_cons_succ]
      refine wpAnyH_ready (rs := [18]) (by kernel_rfl) (by simp) ?_
      refine AllReadyH.cons (o := ?_) ?_ ?_ ?_
      rotate_left 1
      · simp only [List.getElem?_toArray, List.getElem?_cons_succ, List.getElem?_cons_zero]; rfl
      rotate_left 1
      · exact AllReadyH.nil
      intro K hK
      go_simp
      ((with_reducible refine (CW.out _).mono ?_); rintro e w9 ⟨rfl, be⟩; have N9 := Lib.hid (G.below_on N8.out be); have K9 := Lib.hid (K3.out.keep N9.out); have kw9 := K9.out.wr; have kr9 := K9.out.rd; clear be)
      refine hK.out _ _ (ST.out _ (H3.out.keep N9.out)) (fun hHeld => ?_)
      clear hK K
      try simp only [Act.put, List.setIfInBounds_toArray, List.set_cons_zero, List.set_cons_succ]
      refine wpAnyH_take (i := 19) (oi := ?_) (v := ?_) ?_ ?_ ?_ ?_ ?_ ?_ ?_ ?_
      rotate_left 2
      · simp only [List.getElem?_toArray, List.getElem?_cons_succ, List.getElem?_cons_zero]; rfl
      · kernel_rfl
      · kernel_rfl
      · kernel_rfl
      · exact fun _ _ _ h => h
      · refine Or.inl ⟨by rfl, ?_⟩
        intro w' hSw
        (try dsimp only at hSw)
        go_simp
        all_goals (with_reducible rfl)
      · assumption
      try simp only [Act.put, List.setIfInBounds_toArray, List.set_cons_zero, List.set_cons_succ]
      refine wpAnyH_ready (rs := [20]) (by kernel_rfl) (by simp) ?_
      refine AllReadyH.cons (o := ?_) ?_ ?_ ?_
      rotate_left 1
      · simp only [List.getElem?_toArray, List.getElem?_cons_succ, List.getElem?_cons_zero]; rfl
      rotate_left 1
      · exact AllReadyH.nil
      intro K hK
      go_simp
      rw [three_setC K9.out]
      refine hK.out _ _ (ST.out _ ((H3.out.keep N9.out).fr (Fr.setObj (F := fun k => k = bx) (Fr.refl _ _) rfl _) (fun k hk e => HLT.out k hk e))) (fun hHeld => ?_)
      clear hK K
      try simp only [Act.put, List.setIfInBounds_toArray, List.set_cons_zero, List.set_cons_succ]
      refine wpAnyH_done (by kernel_rfl) ?_ _
      clear hHeld
      go_wp2
      refine bodyPost_ret (results_cell_row rfl _ _ bx _ _ (0, 0) _ rfl (setObj_at (lt_of_block K9.out) _) Tryz.underlying40 rfl (by kernel_rfl)) rfl ?_
      refine ⟨rfl, (H3.out.keep N9.out).fr (Fr.setObj (F := fun k => k = bx) (Fr.refl _ _) rfl _) (fun k hk e => HLT.out k hk e), ?_⟩
      exact Fr.drop_new (F := N.all) (s := bx) (Fr.setObj (F := fun k => N.all k ∨ k = bx) (((Fr.of_below B3.out).trans (Fr.of_below N9.out)).mono (fun k (hk : False) => hk.elim)) (Or.inr rfl) _) (by have := HB.out; omega)
  | none =>
    rw [hp] at CF
    have CF := Lib.hid (show Calls Tryz.prog 68 #[.pointer (some ⟨N.Q.p, 0, none⟩), .string key] w1 (fun e w' => e = .returned (.pointer none) ∧ Below w1.heap.size w1 w') from CF.out)
    have hin := estZ_in H1.out.hr key
    have CE := Lib.hid (fun wx (hx : LmAt wx N s) => restimate_any key hs wx hx.hr)
    have CS := Lib.hid (fun wx => sum_any (estZ N.R s.r key) cost (by unfold inR; omega) (by unfold inR; have := hg.B; omega) wx)
    have CL := Lib.hid (fun (s : LmS) wx (hx : LmAt wx N s) => lmleft_any key hs wx hx (by have := hg.L; omega) (by unfold inR; have := hg.B; omega))
    have CA := Lib.hid (fun wx (hx : LmAt wx N s) => radd_any key hs cost (by have := hg.B; omega) wx hx.hr)
    have CW := Lib.hid (fun wx (hx : LmAt wx N s) => rwait_any key hs cost (by have := hg.B; omega) wx hx.hr (s.r.now_le N.R hx.hr.bd.2.1.1 ⟨hx.hr.ht.1, hg.t⟩))
    obtain ⟨est, hest⟩ : ∃ x, x = estZ N.R s.r key := ⟨_, rfl⟩
    rw [← hest] at CE CS hin ⊢
    obtain ⟨sm, hsm⟩ : ∃ x, x = clamp (est + cost) := ⟨_, rfl⟩
    rw [← hsm] at CS ⊢
    have kw := K1.out.wr
    clear hest hsm hpos hp
    have RST := Lib.hid (fun (Wo : World) (hW : LmAt Wo N s) => hW.hl.rd)
    have DN : ∀ d, decide (sm ≤ N.L) = d → d = true ∨ d = false := by intro d _; cases d <;> simp
    by_cases hle : sm ≤ N.L
    · rw [if_pos hle]
      have t1 : decide (sm ≤ N.L) = true := by rw [decide_eq_true_eq]; exact hle
      clear DN hle
      go_enter Tryz.func58, Tryz.ntmps58
      go_upto_region 1 with (fail)
      rw [← HB.out]
      clear hw1 hbx
      go_upto_region 6 with (first
        | (go_at_call 68; ((with_reducible refine CF.out.mono ?_); rintro e w2 ⟨rfl, b2⟩; have H2 := Lib.hid (H1.out.keep b2); have kl2 := H2.out.hl.rd; have K2 := Lib.hid (K1.out.keep b2); have B2 := Lib.hid (below_in L1.out b2); clear b2)))
      have BN := Lib.hid (show Below w2.heap.size w2 w2.drew from below_draws (Below.refl _ _) 1)
      have st := RST.out _ (H2.out.keep BN.out)
      clear kl kw kl2
      refine wp_region_held_drew (S := fun Wo => ∀ j, Wo.cell? ⟨N.l, j, none⟩ = (limC N s.al s.de s.ba)[j]?) (by kernel_rfl) st (fun hHeld => ?_)
      clear st
      refine wpAnyH_take (i := 0) (oi := ?_) (v := ?_) ?_ ?_ ?_ ?_ ?_ ?_ ?_ ?_
      rotate_left 2
      · simp only [List.getElem?_toArray, List.getElem?_cons_succ, List.getElem?_cons_zero]; rfl
      · kernel_rfl
      · kernel_rfl
      · kernel_rfl
      · exact fun _ _ _ h => h
      · refine Or.inl ⟨by rfl, ?_⟩
        intro w' hSw
        (try dsimp only at hSw)
        go_simp
        all_goals (with_reducible rfl)
      · assumption
      try simp only [Act.put, List.setIfInBounds_toArray, List.set_cons_zero, List.set_cons_succ]
      refine wpAnyH_take (i := 1) (oi := ?_) (v := ?_) ?_ ?_ ?_ ?_ ?_ ?_ ?_ ?_
      rotate_left 2
      · simp only [List.getElem?_toArray, List.getElem?_cons_succ, List.getElem?_cons_zero]; rfl
      · kernel_rfl
      · kernel_rfl
      · kernel_rfl
      · exact fun _ _ _ h => h
      · refine Or.inl ⟨by rfl, ?_⟩
        intro w' hSw
        (try dsimp only at hSw)
        go_simp
        all_goals (with_reducible rfl)
      · assumption
      try simp only [Act.put, List.setIfInBounds_toArray, List.set_cons_zero, List.set_cons_succ]
      refine wpAnyH_take (i := 2) (oi := ?_) (v := ?_) ?_ ?_ ?_ ?_ ?_ ?_ ?_ ?_
      rotate_left 2
      · simp only [List.getElem?_toArray, List.getElem?_cons_succ, List.getElem?_cons_zero]; rfl
      · kernel_rfl
      · kernel_rfl
      · kernel_rfl
      · exact fun _ _ _ h => h
      · refine Or.inl ⟨by rfl, ?_⟩
        intro w' hSw
        (try dsimp only at hSw)
        go_simp
        all_goals (with_reducible rfl)
      · assumption
      try simp only [Act.put, List.setIfInBounds_toArray, List.set_cons_zero, List.set_cons_succ]
      refine wpAnyH_take (i := 3) (oi := ?_) (v := ?_) ?_ ?_ ?_ ?_ ?_ ?_ ?_ ?_
      rotate_left 2
      · simp only [List.getElem?_toArray, List.getElem?_cons_succ, List.getElem?_cons_zero]; rfl
      · kernel_rfl
      · kernel_rfl
      · kernel_rfl
      · exact fun _ _ _ h => h
      · refine Or.inl ⟨by rfl, ?_⟩
        intro w' hSw
        (try dsimp only at hSw)
        go_simp
        all_goals (with_reducible rfl)
      · assumption
      try simp only [Act.put, List.setIfInBounds_toArray, List.set_cons_zero, List.set_cons_succ]
      refine wpAnyH_take (i := 4) (oi := ?_) (v := ?_) ?_ ?_ ?_ ?_ ?_ ?_ ?_ ?_
      rotate_left 2
      · simp only [List.getElem?_toArray, List.getElem?_cons_succ, List.getElem?_cons_zero]; rfl
      · kernel_rfl
      · kernel_rfl
      · kernel_rfl
      · exact fun _ _ _ h => h
      · refine Or.inl ⟨by rfl, ?_⟩
        intro w' hSw
        (try dsimp only at hSw)
        go_simp
        all_goals (with_reducible rfl)
      · assumption
      try simp only [Act.put, List.setIfInBounds_toArray, List.set_cons_zero, List.set_cons_succ]
      refine wpAnyH_take (i := 6) (oi := ?_) (v := ?_) ?_ ?_ ?_ ?_ ?_ ?_ ?_ ?_
      rotate_left 2
      · simp only [List.getElem?_toArray, List.getElem?_cons_succ, List.getElem?_cons_zero]; rfl
      · kernel_rfl
      · kernel_rfl
      · kernel_rfl
      · exact fun _ _ _ h => h
      · refine Or.inl ⟨by rfl, ?_⟩
        intro w' hSw
        (try dsimp only at hSw)
        go_simp
        all_goals (with_reducible rfl)
      · assumption
      try simp only [Act.put, List.setIfInBounds_toArray, List.set_cons_zero, List.set_cons_succ]
      refine wpAnyH_take (i := 8) (oi := ?_) (v := ?_) ?_ ?_ ?_ ?_ ?_ ?_ ?_ ?_
      rotate_left 2
      · simp only [List.getElem?_toArray, List.getElem?_cons_succ, List.getElem?_cons_zero]; rfl
      · kernel_rfl
      · kernel_rfl
      · kernel_rfl
      · exact fun _ _ _ h => h
      · refine Or.inl ⟨by rfl, ?_⟩
        intro w' hSw
        (try dsimp only at hSw)
        go_simp
        all_goals (with_reducible rfl)
      · assumption
      try simp only [Act.put, List.setIfInBounds_toArray, List.set_cons_zero, List.set_cons_succ]
      refine wpAnyH_take (i := 9) (oi := ?_) (v := ?_) ?_ ?_ ?_ ?_ ?_ ?_ ?_ ?_
      rotate_left 2
      · simp only [List.getElem?_toArray, List.getElem?_cons_succ, List.getElem?_cons_zero]; rfl
      · kernel_rfl
      · kernel_rfl
      · kernel_rfl
      · exact fun _ _ _ h => h
      · refine Or.inl ⟨by rfl, ?_⟩
        intro w' hSw
        (try dsimp only at hSw)
        go_simp
        all_goals (with_reducible rfl)
      · assumption
      try simp only [Act.put, List.setIfInBounds_toArray, List.set_cons_zero, List.set_cons_succ]
      refine wpAnyH_take (i := 10) (oi := ?_) (v := ?_) ?_ ?_ ?_ ?_ ?_ ?_ ?_ ?_
      rotate_left 2
      · simp only [List.getElem?_toArray, List.getElem?_cons_succ, List.getElem?_cons_zero]; rfl
      · kernel_rfl
      · kernel_rfl
      · kernel_rfl
      · exact fun _ _ _ h => h
      · refine Or.inl ⟨by rfl, ?_⟩
        intro w' hSw
        (try dsimp only at hSw)
        go_simp
        all_goals (with_reducible rfl)
      · assumption
      try simp only [Act.put, List.setIfInBounds_toArray, List.set_cons_zero, List.set_cons_succ]
      refine wpAnyH_take (i := 11) (oi := ?_) (v := ?_) ?_ ?_ ?_ ?_ ?_ ?_ ?_ ?_
      rotate_left 2
      · simp only [List.getElem?_toArray, List.getElem?_cons_succ, List.getElem?_cons_zero]; rfl
      · kernel_rfl
      · kernel_rfl
      · kernel_rfl
      · exact fun _ _ _ h => h
      · refine Or.inl ⟨by rfl, ?_⟩
        intro w' hSw
        (try dsimp only at hSw)
        go_simp
        all_goals (with_reducible rfl)
      · assumption
      try simp only [Act.put, List.setIfInBounds_toArray, List.set_cons_zero, List.set_cons_succ]
      refine wpAnyH_take (i := 12) (oi := ?_) (v := ?_) ?_ ?_ ?_ ?_ ?_ ?_ ?_ ?_
      rotate_left 2
      · simp only [List.getElem?_toArray, List.getElem?_cons_succ, List.getElem?_cons_zero]; rfl
      · kernel_rfl
      · kernel_rfl
      · kernel_rfl
      · exact fun _ _ _ h => h
      · refine Or.inl ⟨by rfl, ?_⟩
        intro w' hSw
        (try dsimp only at hSw)
        go_simp
        all_goals (with_reducible rfl)
      · assumption
      try simp only [Act.put, List.setIfInBounds_toArray, List.set_cons_zero, List.set_cons_succ]
      refine wpAnyH_ready (rs := [5]) (by kernel_rfl) (by simp) ?_
      refine AllReadyH.cons (o := ?_) ?_ ?_ ?_
      rotate_left 1
      · simp only [List.getElem?_toArray, List.getElem?_cons_succ, List.getElem?_cons_zero]; rfl
      rotate_left 1
      · exact AllReadyH.nil
      intro K hK
      go_simp
      ((with_reducible refine (CE.out _ (H2.out.keep BN.out)).mono ?_); rintro e w5 ⟨rfl, be⟩; have N5 := Lib.hid (G.below_on BN.out be); clear be)
      refine hK.out _ _ (RST.out _ (H2.out.keep N5.out)) (fun hHeld => ?_)
      clear hK K
      try simp only [Act.put, List.setIfInBounds_toArray, List.set_cons_zero, List.set_cons_succ]
      refine wpAnyH_ready (rs := [7]) (by kernel_rfl) (by simp) ?_
      refine AllReadyH.cons (o := ?_) ?_ ?_ ?_
      rotate_left 1
      · simp only [List.getElem?_toArray, List.getElem?_cons_succ, List.getElem?_cons_zero]; rfl
      rotate_left 1
      · exact AllReadyH.nil
      intro K hK
      go_simp
      ((with_reducible refine (CS.out _).mono ?_); rintro e w6 ⟨rfl, rfl⟩)
      refine hK.out _ _ (RST.out _ (H2.out.keep N5.out)) (fun hHeld => ?_)
      clear hK K
      try simp only [Act.put, List.setIfInBounds_toArray, List.set_cons_zero, List.set_cons_succ]
      refine wpAnyH_take (i := 13) (oi := ?_) (v := ?_) ?_ ?_ ?_ ?_ ?_ ?_ ?_ ?_
      rotate_left 2
      · simp only [List.getElem?_toArray, List.getElem?_cons_succ, List.getElem?_cons_zero]; rfl
      · kernel_rfl
      · kernel_rfl
      · kernel_rfl
      · exact fun _ _ _ h => h
      · refine Or.inl ⟨by rfl, ?_⟩
        intro w' hSw
        (try dsimp only at hSw)
        go_simp
        all_goals (with_reducible rfl)
      · assumption
      try simp only [Act.put, List.setIfInBounds_toArray, List.set_cons_zero, List.set_cons_succ]
      refine wpAnyH_done (by kernel_rfl) ?_ _
      clear hHeld
      have H5 := Lib.hid (H2.out.keep N5.out)
      have K5 := Lib.hid (K2.out.keep N5.out)
      have kl5 := H5.out.hl.rd
      go_wp2_with (first
        | (go_at_call 102; ((with_reducible refine (CA.out _ H5.out).mono ?_); rintro e w7 ⟨rfl, r7, f7⟩; have H7 := Lib.hid (H5.out.ring r7 f7 (fun k hk => Or.inl hk)); have K7 := Lib.hid (K5.out.fr f7 (fun hk => HLT.out bx (Or.inl (Or.inr (Or.inl (Or.inl hk)))) rfl)); have F7 := Lib.hid ((Fr.of_below (below_in B2.out N5.out)).trans (f7.mono (fun k hk => show N.all k from Or.inl (Or.inr (Or.inl (Or.inl hk)))))); have kl7 := H7.out.hl.rd; clear r7 f7))
        | (go_at_call 47; ((with_reducible refine (CL.out _ _ H7.out).mono ?_); rintro e w8 ⟨rfl, b8⟩; have H8 := Lib.hid (H7.out.keep b8); have K8 := Lib.hid (K7.out.keep b8); have F8 := Lib.hid (F7.out.trans (Fr.of_below b8)); have kw8 := K8.out.wr; have kr8 := K8.out.rd; clear b8)))
      rw [three_setC K8.out]
      refine bodyPost_ret (results_cell_row rfl _ _ bx _ _ (0, 0) _ rfl (setObj_at (lt_of_block K8.out) _) Tryz.underlying40 rfl (by kernel_rfl)) rfl ?_
      refine ⟨rfl, H8.out.fr (Fr.setObj (F := fun k => k = bx) (Fr.refl _ _) rfl _) (fun k hk e => HLT.out k hk e), ?_⟩
      exact Fr.drop_new (F := N.all) (s := bx) (Fr.setObj (F := fun k => N.all k ∨ k = bx) (F8.out.mono (fun k hk => Or.inl hk)) (Or.inr rfl) _) (by have := HB.out; omega)
    · rw [if_neg hle]
      have t1 : decide (sm ≤ N.L) = false := by rw [decide_eq_false_iff_not]; exact hle
      clear DN hle
      go_enter Tryz.func58, Tryz.ntmps58
      go_upto_region 1 with (fail)
      rw [← HB.out]
      clear hw1 hbx
      go_upto_region 6 with (first
        | (go_at_call 68; ((with_reducible refine CF.out.mono ?_); rintro e w2 ⟨rfl, b2⟩; have H2 := Lib.hid (H1.out.keep b2); have kl2 := H2.out.hl.rd; have K2 := Lib.hid (K1.out.keep b2); have B2 := Lib.hid (below_in L1.out b2); clear b2)))
      have BN := Lib.hid (show Below w2.heap.size w2 w2.drew from below_draws (Below.refl _ _) 1)
      have st := RST.out _ (H2.out.keep BN.out)
      clear kl kw kl2
      refine wp_region_held_drew (S := fun Wo => ∀ j, Wo.cell? ⟨N.l, j, none⟩ = (limC N s.al s.de s.ba)[j]?) (by kernel_rfl) st (fun hHeld => ?_)
      clear st
      refine wpAnyH_take (i := 0) (oi := ?_) (v := ?_) ?_ ?_ ?_ ?_ ?_ ?_ ?_ ?_
      rotate_left 2
      · simp only [List.getElem?_toArray, List.getElem?_cons_succ, List.getElem?_cons_zero]; rfl
      · kernel_rfl
      · kernel_rfl
      · kernel_rfl
      · exact fun _ _ _ h => h
      · refine Or.inl ⟨by rfl, ?_⟩
        intro w' hSw
        (try dsimp only at hSw)
        go_simp
        all_goals (with_reducible rfl)
      · assumption
      try simp only [Act.put, List.setIfInBounds_toArray, List.set_cons_zero, List.set_cons_succ]
      refine wpAnyH_take (i := 1) (oi := ?_) (v := ?_) ?_ ?_ ?_ ?_ ?_ ?_ ?_ ?_
      rotate_left 2
      · simp only [List.getElem?_toArray, List.getElem?_cons_succ, List.getElem?_cons_zero]; rfl
      · kernel_rfl
      · kernel_rfl
      · kernel_rfl
      · exact fun _ _ _ h => h
      · refine Or.inl ⟨by rfl, ?_⟩
        intro w' hSw
        (try dsimp only at hSw)
        go_simp
        all_goals (with_reducible rfl)
      · assumption
      try simp only [Act.put, List.setIfInBounds_toArray, List.set_cons_zero, List.set_cons_succ]
      refine wpAnyH_take (i := 2) (oi := ?_) (v := ?_) ?_ ?_ ?_ ?_ ?_ ?_ ?_ ?_
      rotate_left 2
      · simp only [List.getElem?_toArray, List.getElem?_cons_succ, List.getElem?_cons_zero]; rfl
      · kernel_rfl
      · kernel_rfl
      · kernel_rfl
      · exact fun _ _ _ h => h
      · refine Or.inl ⟨by rfl, ?_⟩
        intro w' hSw
        (try dsimp only at hSw)
        go_simp
        all_goals (with_reducible rfl)
      · assumption
      try simp only [Act.put, List.setIfInBounds_toArray, List.set_cons_zero, List.set_cons_succ]
      refine wpAnyH_take (i := 3) (oi := ?_) (v := ?_) ?_ ?_ ?_ ?_ ?_ ?_ ?_ ?_
      rotate_left 2
      · simp only [List.getElem?_toArray, List.getElem?_cons_succ, List.getElem?_cons_zero]; rfl
      · kernel_rfl
      · kernel_rfl
      · kernel_rfl
      · exact fun _ _ _ h => h
      · refine Or.inl ⟨by rfl, ?_⟩
        intro w' hSw
        (try dsimp only at hSw)
        go_simp
        all_goals (with_reducible rfl)
      · assumption
      try simp only [Act.put, List.setIfInBounds_toArray, List.set_cons_zero, List.set_cons_succ]
      refine wpAnyH_take (i := 4) (oi := ?_) (v := ?_) ?_ ?_ ?_ ?_ ?_ ?_ ?_ ?_
      rotate_left 2
      · simp only [List.getElem?_toArray, List.getElem?_cons_succ, List.getElem?_cons_zero]; rfl
      · kernel_rfl
      · kernel_rfl
      · kernel_rfl
      · exact fun _ _ _ h => h
      · refine Or.inl ⟨by rfl, ?_⟩
        intro w' hSw
        (try dsimp only at hSw)
        go_simp
        all_goals (with_reducible rfl)
      · assumption
      try simp only [Act.put, List.setIfInBounds_toArray, List.set_cons_zero, List.set_cons_succ]
      refine wpAnyH_take (i := 6) (oi := ?_) (v := ?_) ?_ ?_ ?_ ?_ ?_ ?_ ?_ ?_
      rotate_left 2
      · simp only [List.getElem?_toArray, List.getElem?_cons_succ, List.getElem?_cons_zero]; rfl
      · kernel_rfl
      · kernel_rfl
      · kernel_rfl
      · exact fun _ _ _ h => h
      · refine Or.inl ⟨by rfl, ?_⟩
        intro w' hSw
        (try dsimp only at hSw)
        go_simp
        all_goals (with_reducible rfl)
      · assumption
      try simp only [Act.put, List.setIfInBounds_toArray, List.set_cons_zero, List.set_cons_succ]
      refine wpAnyH_take (i := 8) (oi := ?_) (v := ?_) ?_ ?_ ?_ ?_ ?_ ?_ ?_ ?_
      rotate_left 2
      · simp only [List.getElem?_toArray, List.getElem?_cons_succ, List.getElem?_cons_zero]; rfl
      · kernel_rfl
      · kernel_rfl
      · kernel_rfl
      · exact fun _ _ _ h => h
      · refine Or.inl ⟨by rfl, ?_⟩
        intro w' hSw
        (try dsimp only at hSw)
        go_simp
        all_goals (with_reducible rfl)
      · assumption
      try simp only [Act.put, List.setIfInBounds_toArray, List.set_cons_zero, List.set_cons_succ]
      refine wpAnyH_take (i := 9) (oi := ?_) (v := ?_) ?_ ?_ ?_ ?_ ?_ ?_ ?_ ?_
      rotate_left 2
      · simp only [List.getElem?_toArray, List.getElem?_cons_succ, List.getElem?_cons_zero]; rfl
      · kernel_rfl
      · kernel_rfl
      · kernel_rfl
      · exact fun _ _ _ h => h
      · refine Or.inl ⟨by rfl, ?_⟩
        intro w' hSw
        (try dsimp only at hSw)
        go_simp
        all_goals (with_reducible rfl)
      · assumption
      try simp only [Act.put, List.setIfInBounds_toArray, List.set_cons_zero, List.set_cons_succ]
      refine wpAnyH_take (i := 10) (oi := ?_) (v := ?_) ?_ ?_ ?_ ?_ ?_ ?_ ?_ ?_
      rotate_left 2
      · simp only [List.getElem?_toArray, List.getElem?_cons_succ, List.getElem?_cons_zero]; rfl
      · kernel_rfl
      · kernel_rfl
      · kernel_rfl
      · exact fun _ _ _ h => h
      · refine Or.inl ⟨by rfl, ?_⟩
        intro w' hSw
        (try dsimp only at hSw)
        go_simp
        all_goals (with_reducible rfl)
      · assumption
      try simp only [Act.put, List.setIfInBounds_toArray, List.set_cons_zero, List.set_cons_succ]
      refine wpAnyH_take (i := 11) (oi := ?_) (v := ?_) ?_ ?_ ?_ ?_ ?_ ?_ ?_ ?_
      rotate_left 2
      · simp only [List.getElem?_toArray, List.getElem?_cons_succ, List.getElem?_cons_zero]; rfl
      · kernel_rfl
      · kernel_rfl
      · kernel_rfl
      · exact fun _ _ _ h => h
      · refine Or.inl ⟨by rfl, ?_⟩
        intro w' hSw
        (try dsimp only at hSw)
        go_simp
        all_goals (with_reducible rfl)
      · assumption
      try simp only [Act.put, List.setIfInBounds_toArray, List.set_cons_zero, List.set_cons_succ]
      refine wpAnyH_take (i := 12) (oi := ?_) (v := ?_) ?_ ?_ ?_ ?_ ?_ ?_ ?_ ?_
      rotate_left 2
      · simp only [List.getElem?_toArray, List.getElem?_cons_succ, List.getElem?_cons_zero]; rfl
      · kernel_rfl
      · kernel_rfl
      · kernel_rfl
      · exact fun _ _ _ h => h
      · refine Or.inl ⟨by rfl, ?_⟩
        intro w' hSw
        (try dsimp only at hSw)
        go_simp
        all_goals (with_reducible rfl)
      · assumption
      try simp only [Act.put, List.setIfInBounds_toArray, List.set_cons_zero, List.set_cons_succ]
      refine wpAnyH_ready (rs := [5]) (by kernel_rfl) (by simp) ?_
      refine AllReadyH.cons (o := ?_) ?_ ?_ ?_
      rotate_left 1
      · simp only [List.getElem?_toArray, List.getElem?_cons_succ, List.getElem?_cons_zero]; rfl
      rotate_left 1
      · exact AllReadyH.nil
      intro K hK
      go_simp
      ((with_reducible refine (CE.out _ (H2.out.keep BN.out)).mono ?_); rintro e w5 ⟨rfl, be⟩; have N5 := Lib.hid (G.below_on BN.out be); clear be)
      refine hK.out _ _ (RST.out _ (H2.out.keep N5.out)) (fun hHeld => ?_)
      clear hK K
      try simp only [Act.put, List.setIfInBounds_toArray, List.set_cons_zero, List.set_cons_succ]
      refine wpAnyH_ready (rs := [7]) (by kernel_rfl) (by simp) ?_
      refine AllReadyH.cons (o := ?_) ?_ ?_ ?_
      rotate_left 1
      · simp only [List.getElem?_toArray, List.getElem?_cons_succ, List.getElem?_cons_zero]; rfl
      rotate_left 1
      · exact AllReadyH.nil
      intro K hK
      go_simp
      ((with_reducible refine (CS.out _).mono ?_); rintro e w6 ⟨rfl, rfl⟩)
      refine hK.out _ _ (RST.out _ (H2.out.keep N5.out)) (fun hHeld => ?_)
      clear hK K
      try simp only [Act.put, List.setIfInBounds_toArray, List.set_cons_zero, List.set_cons_succ]
      refine wpAnyH_take (i := 13) (oi := ?_) (v := ?_) ?_ ?_ ?_ ?_ ?_ ?_ ?_ ?_
      rotate_left 2
      · simp only [List.getElem?_toArray, List.getElem?_cons_succ, List.getElem?_cons_zero]; rfl
      · kernel_rfl
      · kernel_rfl
      · kernel_rfl
      · exact fun _ _ _ h => h
      · refine Or.inl ⟨by rfl, ?_⟩
        intro w' hSw
        (try dsimp only at hSw)
        go_simp
        all_goals (with_reducible rfl)
      · assumption
      try simp only [Act.put, List.setIfInBounds_toArray, List.set_cons_zero, List.set_cons_succ]
      refine wpAnyH_done (by kernel_rfl) ?_ _
      clear hHeld
      have H5 := Lib.hid (H2.out.keep N5.out)
      have K5 := Lib.hid (K2.out.keep N5.out)
      have kl5 := H5.out.hl.rd
      go_upto_region 9 with (fail)
      have BM := Lib.hid (show Below w5.heap.size w5 w5.drew from below_draws (Below.refl _ _) 1)
      have st := RST.out _ (H5.out.keep BM.out)
      clear kl5
      refine wp_region_held_drew (S := fun Wo => ∀ j, Wo.cell? ⟨N.l, j, none⟩ = (limC N s.al s.de s.ba)[j]?) (by kernel_rfl) st (fun hHeld => ?_)
      clear st
      refine wpAnyH_take (i := 0) (oi := ?_) (v := ?_) ?_ ?_ ?_ ?_ ?_ ?_ ?_ ?_
      rotate_left 2
      · simp only [List.getElem?_toArray, List.getElem?_cons_succ, List.getElem?_cons_zero]; rfl
      · kernel_rfl
      · kernel_rfl
      · kernel_rfl
      · exact fun _ _ _ h => h
      · refine Or.inl ⟨by rfl, ?_⟩
        intro w' hSw
        (try dsimp only at hSw)
        go_simp
        all_goals (with_reducible rfl)
      · assumption
      try simp only [Act.put, List.setIfInBounds_toArray, List.set_cons_zero, List.set_cons_succ]
      refine wpAnyH_take (i := 1) (oi := ?_) (v := ?_) ?_ ?_ ?_ ?_ ?_ ?_ ?_ ?_
      rotate_left 2
      · simp only [List.getElem?_toArray, List.getElem?_cons_succ, List.getElem?_cons_zero]; rfl
      · kernel_rfl
      · kernel_rfl
      · kernel_rfl
      · exact fun _ _ _ h => h
      · refine Or.inl ⟨by rfl, ?_⟩
        intro w' hSw
        (try dsimp only at hSw)
        go_simp
        all_goals (with_reducible rfl)
      · assumption
      try simp only [Act.put, List.setIfInBounds_toArray, List.set_cons_zero, List.set_cons_succ]
      refine wpAnyH_take (i := 3) (oi := ?_) (v := ?_) ?_ ?_ ?_ ?_ ?_ ?_ ?_ ?_
      rotate_left 2
      · simp only [List.getElem?_toArray, List.getElem?_cons_succ, List.getElem?_cons_zero]; rfl
      · kernel_rfl
      · kernel_rfl
      · kernel_rfl
      · exact fun _ _ _ h => h
      · refine Or.inl ⟨by rfl, ?_⟩
        intro w' hSw
        (try dsimp only at hSw)
        go_simp
        all_goals (with_reducible rfl)
      · assumption
      try simp only [Act.put, List.setIfInBounds_toArray, List.set_cons_zero, List.set_cons_succ]
      refine wpAnyH_take (i := 4) (oi := ?_) (v := ?_) ?_ ?_ ?_ ?_ ?_ ?_ ?_ ?_
      rotate_left 2
      · simp only [List.getElem?_toArray, List.getElem?_cons_succ, List.getElem?_cons_zero]; rfl
      · kernel_rfl
      · kernel_rfl
      · kernel_rfl
      · exact fun _ _ _ h => h
      · refine Or.inl ⟨by rfl, ?_⟩
        intro w' hSw
        (try dsimp only at hSw)
        go_simp
        all_goals (with_reducible rfl)
      · assumption
      try simp only [Act.put, List.setIfInBounds_toArray, List.set_cons_zero, List.set_cons_succ]
      refine wpAnyH_take (i := 5) (oi := ?_) (v := ?_) ?_ ?_ ?_ ?_ ?_ ?_ ?_ ?_
      rotate_left 2
      · simp only [List.getElem?_toArray, List.getElem?_cons_succ, List.getElem?_cons_zero]; rfl
      · kernel_rfl
      · kernel_rfl
      · kernel_rfl
      · exact fun _ _ _ h => h
      · refine Or.inl ⟨by rfl, ?_⟩
        intro w' hSw
        (try dsimp only at hSw)
        go_simp
        all_goals (with_reducible rfl)
      · assumption
      try simp only [Act.put, List.setIfInBounds_toArray, List.set_cons_zero, List.set_cons_succ]
      refine wpAnyH_take (i := 6) (oi := ?_) (v := ?_) ?_ ?_ ?_ ?_ ?_ ?_ ?_ ?_
      rotate_left 2
      · simp only [List.getElem?_toArray, List.getElem?_cons_succ, List.getElem?_cons_zero]; rfl
      · kernel_rfl
      · kernel_rfl
      · kernel_rfl
      · exact fun _ _ _ h => h
      · refine Or.inl ⟨by rfl, ?_⟩
        intro w' hSw
        (try dsimp only at hSw)
        go_simp
        all_goals (with_reducible rfl)
      · assumption
      try simp only [Act.put, List.setIfInBounds_toArray, List.set_cons_zero, List.set_cons_succ]
      refine wpAnyH_take (i := 7) (oi := ?_) (v := ?_) ?_ ?_ ?_ ?_ ?_ ?_ ?_ ?_
      rotate_left 2
      · simp only [List.getElem?_toArray, List.getElem?_cons_succ, List.getElem?_cons_zero]; rfl
      · kernel_rfl
      · kernel_rfl
      · kernel_rfl
      · exact fun _ _ _ h => h
      · refine Or.inl ⟨by rfl, ?_⟩
        intro w' hSw
        (try dsimp only at hSw)
        go_simp
        all_goals (with_reducible rfl)
      · assumption
      try simp only [Act.put, List.setIfInBounds_toArray, List.set_cons_zero, List.set_cons_succ]
      refine wpAnyH_take (i := 8) (oi := ?_) (v := ?_) ?_ ?_ ?_ ?_ ?_ ?_ ?_ ?_
      rotate_left 2
      · simp only [List.getElem?_toArray, List.getElem?_cons_succ, List.getElem?_cons_zero]; rfl
      · kernel_rfl
      · kernel_rfl
      · kernel_rfl
      · exact fun _ _ _ h => h
      · refine Or.inl ⟨by rfl, ?_⟩
        intro w' hSw
        (try dsimp only at hSw)
        go_simp
        all_goals (with_reducible rfl)
      · assumption
      try simp only [Act.put, List.setIfInBounds_toArray, List.set_cons_zero, List.set_cons_succ]
      refine wpAnyH_ready (rs := [2]) (by kernel_rfl) (by simp) ?_
      refine AllReadyH.cons (o := ?_) ?_ ?_ ?_
      rotate_left 1
      · simp only [List.getElem?_toArray, List.getElem?_cons_succ, List.getElem?_cons_zero]; rfl
      rotate_left 1
      · exact AllReadyH.nil
      intro K hK
      go_simp
      ((with_reducible refine (CL.out _ _ (H5.out.keep BM.out)).mono ?_); rintro e w8 ⟨rfl, be⟩; have M2 := Lib.hid (G.below_on BM.out be); clear be)
      refine hK.out _ _ (RST.out _ (H5.out.keep M2.out)) (fun hHeld => ?_)
      clear hK K
      try simp only [Act.put, List.setIfInBounds_toArray, List.set_cons_zero, List.set_cons_succ]
      refine wpAnyH_ready (rs := [9]) (by kernel_rfl) (by simp) ?_
      refine AllReadyH.cons (o := ?_) ?_ ?_ ?_
      rotate_left 1
      · simp only [List.getElem?_toArray, List.getElem?_cons_succ, List.getElem?_cons_zero]; rfl
      rotate_left 1
      · exact AllReadyH.nil
      intro K hK
      go_simp
      ((with_reducible refine (CW.out _ (H5.out.keep M2.out)).mono ?_); rintro e w9 ⟨rfl, be⟩; have M9 := Lib.hid (G.below_on M2.out be); have K9 := Lib.hid (K5.out.keep M9.out); have kw9 := K9.out.wr; have kr9 := K9.out.rd; clear be)
      refine hK.out _ _ (RST.out _ (H5.out.keep M9.out)) (fun hHeld => ?_)
      clear hK K
      try simp only [Act.put, List.setIfInBounds_toArray, List.set_cons_zero, List.set_cons_succ]
      refine wpAnyH_take (i := 10) (oi := ?_) (v := ?_) ?_ ?_ ?_ ?_ ?_ ?_ ?_ ?_
      rotate_left 2
      · simp only [List.getElem?_toArray, List.getElem?_cons_succ, List.getElem?_cons_zero]; rfl
      · kernel_rfl
      · kernel_rfl
      · kernel_rfl
      · exact fun _ _ _ h => h
      · refine Or.inl ⟨by rfl, ?_⟩
        intro w' hSw
        (try dsimp only at hSw)
        go_simp
        all_goals (with_reducible rfl)
      · assumption
      try simp only [Act.put, List.setIfInBounds_toArray, List.set_cons_zero, List.set_cons_succ]
      refine wpAnyH_ready (rs := [11]) (by kernel_rfl) (by simp) ?_
      refine AllReadyH.cons (o := ?_) ?_ ?_ ?_
      rotate_left 1
      · simp only [List.getElem?_toArray, List.getElem?_cons_succ, List.getElem?_cons_zero]; rfl
      rotate_left 1
      · exact AllReadyH.nil
      intro K hK
      go_simp
      rw [three_setC K9.out]
      refine hK.out _ _ (RST.out _ ((H5.out.keep M9.out).fr (Fr.setObj (F := fun k => k = bx) (Fr.refl _ _) rfl _) (fun k hk e => HLT.out k hk e))) (fun hHeld => ?_)
      clear hK K
      try simp only [Act.put, List.setIfInBounds_toArray, List.set_cons_zero, List.set_cons_succ]
      refine wpAnyH_done (by kernel_rfl) ?_ _
      clear hHeld
      go_wp2
      refine bodyPost_ret (results_cell_row rfl _ _ bx _ _ (0, 0) _ rfl (setObj_at (lt_of_block K9.out) _) Tryz.underlying40 rfl (by kernel_rfl)) rfl ?_
      refine ⟨rfl, (H5.out.keep M9.out).fr (Fr.setObj (F := fun k => k = bx) (Fr.refl _ _) rfl _) (fun k hk e => HLT.out k hk e), ?_⟩
      exact Fr.drop_new (F := N.all) (s := bx) (Fr.setObj (F := fun k => N.all k ∨ k = bx) ((Fr.of_below (below_in (below_in B2.out N5.out) M9.out)).mono (fun k (hk : False) => hk.elim)) (Or.inr rfl) _) (by have := HB.out; omega)
end
end Go.Proofs.YtbgcpljekcagiaaGreat
/- The contracts of layer 12 (limiter): lightest. -/
namespace Go.Proofs.YtbgcpljekcagiaaGreat
set_option linter.unusedSimpArgs false
set_option linter.unusedVariables false
set_option maxRecDepth 100000
open Go.ChangeShapes Go.WideShapes Go.ChangeAt Go.RowKit Go.Shelf
open Ar (inR)
attribute [local go_sem] Oper.semAt_some
theorem smleastS {w1 : World} {Q : SmN} {M : List Tri} {tot : Int} (h : SmM w1 Q M tot) : Calls Tryz.prog 125 #[.pointer (some ⟨Q.s, 0, none⟩)] w1 fun e w' => e = .returned (.int .i64 (leastM Q.N.n M)) ∧ Below w1.heap.size w1 w' := by
  obtain ⟨L, σ, h1, rfl⟩ := h
  have e : leastE Q.N.n L = leastM Q.N.n (L.map Ent.c) := by
    unfold leastE leastM
    rw [List.length_map, List.getLast?_map]
    cases L.getLast? <;> rfl
  rw [← e]
  exact smleast_any w1 h1
theorem results_t3 {P : Program} {fn : Func} {p q r : Tmp} (h : fn.results = #[.tmp p, .tmp q, .tmp r]) (tmps : Array Value) (w : World) : (results fn tmps).run P w = .ok (.tuple #[tmps.getD p undef, tmps.getD q undef, tmps.getD r undef]) w := by
  simp [results, h]
/-- what a key may have been offered at most. -/
def mostM (n : Nat) (M : List Tri) (s : ByteArray) : Int := if (tellM M s).2.2 then (tellM M s).1 else leastM n M
/-- the lightest so far: its key, its number, whether there is one. -/
def lightS (f : ByteArray → Int) (a : ByteArray × Int × Bool) (s : ByteArray) : ByteArray × Int × Bool := if a.2.2 = false ∨ f s < a.2.1 then (s, f s, true) else a
def lightL (f : ByteArray → Int) (l : List (ByteArray × Cel)) : ByteArray × Int × Bool := l.foldl (fun a x => lightS f a x.1) (⟨#[]⟩, 0, false)
theorem lightL_snoc (f : ByteArray → Int) (l : List (ByteArray × Cel)) (x : ByteArray × Cel) : lightL f (l ++ [x]) = lightS f (lightL f l) x.1 := by
  unfold lightL
  rw [List.foldl_append]
  rfl
theorem three_put {w : World} {b1 b2 b3 : Nat} {t1 t2 t3 : TypeId} {a1 a2 a3 : Value} (h1 : Blk w b1 t1 #[a1]) (h2 : Blk w b2 t2 #[a2]) (h3 : Blk w b3 t3 #[a3]) (n12 : b1 ≠ b2) (n13 : b1 ≠ b3) (n23 : b2 ≠ b3) (v1 v2 v3 : Value) :
    ∃ Y, ((w.setCell ⟨b1, 0, none⟩ v1).setCell ⟨b2, 0, none⟩ v2).setCell ⟨b3, 0, none⟩ v3 = Y ∧ Blk Y b1 t1 #[v1] ∧ Blk Y b2 t2 #[v2] ∧ Blk Y b3 t3 #[v3] ∧ Fr (fun k => k = b1 ∨ k = b2 ∨ k = b3) w Y := by
  have e1 : w.setCell ⟨b1, 0, none⟩ v1 = setObj w b1 (.cells #[v1] t1 (0, 0)) := setCell_obj h1 _
  have f1 : Fr (fun k => k = b1) w (setObj w b1 (.cells #[v1] t1 (0, 0))) := Fr.setObj (F := fun k => k = b1) (Fr.refl _ _) rfl _
  have k1 : Blk (setObj w b1 (.cells #[v1] t1 (0, 0))) b1 t1 #[v1] := setObj_at (lt_of_block h1) _
  have k2 := h2.fr f1 (fun e => n12 e.symm)
  have k3 := h3.fr f1 (fun e => n13 e.symm)
  rw [e1]
  generalize setObj w b1 (.cells #[v1] t1 (0, 0)) = w1 at *
  have e2 : w1.setCell ⟨b2, 0, none⟩ v2 = setObj w1 b2 (.cells #[v2] t2 (0, 0)) := setCell_obj k2 _
  have f2 : Fr (fun k => k = b2) w1 (setObj w1 b2 (.cells #[v2] t2 (0, 0))) := Fr.setObj (F := fun k => k = b2) (Fr.refl _ _) rfl _
  have q2 : Blk (setObj w1 b2 (.cells #[v2] t2 (0, 0))) b2 t2 #[v2] := setObj_at (lt_of_block k2) _
  have q1 := k1.fr f2 n12
  have q3 := k3.fr f2 (fun e => n23 e.symm)
  rw [e2]
  generalize setObj w1 b2 (.cells #[v2] t2 (0, 0)) = w2 at *
  have e3 : w2.setCell ⟨b3, 0, none⟩ v3 = setObj w2 b3 (.cells #[v3] t3 (0, 0)) := setCell_obj q3 _
  have f3 : Fr (fun k => k = b3) w2 (setObj w2 b3 (.cells #[v3] t3 (0, 0))) := Fr.setObj (F := fun k => k = b3) (Fr.refl _ _) rfl _
  rw [e3]
  exact ⟨_, rfl, q1.fr f3 n13, q2.fr f3 n23, setObj_at (lt_of_block q3) _, (f1.mono (fun k h => Or.inl h)).trans ((f2.mono (fun k h => Or.inr (Or.inl h))).trans (f3.mono (fun k h => Or.inr (Or.inr h))))⟩
section
variable {N : LmN} {s : LmS}
/-- the keys of the pool, by their cells' places. -/
abbrev LmS.res (s : LmS) (N : LmN) : List (ByteArray × Cel) := plL s.σ.K s.C N.Q.N.n
def LmS.light (s : LmS) (N : LmN) : ByteArray × Int × Bool := lightL (mostM N.S.N.n s.M) (s.res N)
set_option maxHeartbeats 6000000 in
theorem lmlightest_any (w : World) (h : LmAt w N s) (hk : ∀ x ∈ s.res N, x.1.size ≤ maxLen) :
    Calls Tryz.prog 128 #[.pointer (some ⟨N.l, 0, none⟩)] w fun e w' => e = .returned (.tuple #[.string (s.light N).1, .int .i64 (s.light N).2.1, .bool (s.light N).2.2]) ∧ Below w.heap.size w w' := by
  obtain ⟨f, hf⟩ : ∃ f, f = mostM N.S.N.n s.M := ⟨_, rfl⟩
  have HF := Lib.hid hf
  have e0 : s.light N = lightL f (s.res N) := by rw [hf]; rfl
  rw [e0]
  clear e0 hf
  refine callsM Tryz.func128 rfl ?_
  simp only [Tryz.ntmps128, List.size_toArray, List.length_cons, List.length_nil, Nat.reduceAdd, Nat.reduceSub, Array.replicate_succ, Array.replicate_zero, List.push_toArray, List.append_toArray, List.nil_append, List.cons_append]
  go_upto_region 2 with (fail)
  obtain ⟨w4, e4, m1, m2, m3, m4, bw⟩ := four_allocs w #[.pointer (some ⟨N.l, 0, none⟩)] #[.string ⟨#[]⟩] #[.int .i64 0] #[.bool false] 31 9 2 4
  rw [e4]
  have hsz : w4.heap.size = w.heap.size + 1 + 1 + 1 + 1 := by rw [← e4]; simp
  have P4 := h.hp.keep bw
  have M4 := h.hm.keep bw
  have L4 := h.hl.keep bw
  clear e4
  obtain ⟨r3, hr3⟩ : ∃ x, x = w.heap.size + 1 + 1 + 1 := ⟨_, rfl⟩
  obtain ⟨r2, hr2⟩ : ∃ x, x = w.heap.size + 1 + 1 := ⟨_, rfl⟩
  obtain ⟨r1, hr1⟩ : ∃ x, x = w.heap.size + 1 := ⟨_, rfl⟩
  obtain ⟨r0, hr0⟩ : ∃ x, x = w.heap.size := ⟨_, rfl⟩
  rw [← hr3] at m4 ⊢
  rw [← hr2] at m3 ⊢
  rw [← hr1] at m2 ⊢
  rw [← hr0] at m1 ⊢
  have HR := Lib.hid (And.intro hr0 (And.intro hr1 (And.intro hr2 (And.intro hr3 hsz))))
  have HN := Lib.hid (show ∀ k, N.all k → k < w.heap.size from fun k hk => h.lt k hk)
  have HK := Lib.hid hk
  clear hr0 hr1 hr2 hr3 hk hsz
  have z0 := m1.rd
  have zl := L4.rd
  have H4 := Lib.hid (And.intro P4 (And.intro M4 (And.intro L4 (And.intro m1 (And.intro m2 (And.intro m3 (And.intro m4 bw)))))))
  clear P4 M4 L4 m1 m2 m3 m4 bw h
  go_wp2
  clear z0 zl
  refine (wpIn_wide (n := 0)).1 (rf_law (gf := 117) (fb := #[.pointer (some ⟨N.Q.p, 0, none⟩)]) rfl (enters_of Tryz.func117 (by kernel_rfl) rfl) (plall_any N.Q s.σ s.C w4 H4.out.1) (Below.refl _ _) (fun _ => rfl) KeepB.trans (fun _ _ h => KeepB.turn h)
    (fun pre W' => PlAt W' N.Q s.σ s.C ∧ SmM W' N.S s.M s.tot ∧ Blk W' N.l 92 (limC N s.al s.de s.ba) ∧ Blk W' r0 31 #[.pointer (some ⟨N.l, 0, none⟩)] ∧ Blk W' r1 9 #[.string (lightL f pre).1] ∧ Blk W' r2 2 #[.int .i64 (lightL f pre).2.1] ∧ Blk W' r3 4 #[.bool (lightL f pre).2.2] ∧ Below w.heap.size w W')
    (fun c pre W' => False)
    ?hI ?hIx ?h0 ?round ?done ?stop)
  case hI => exact fun pre X Y hs hT => ⟨KeepB.pl (KeepB.turn hT) hs.1, KeepB.smM (KeepB.turn hT) hs.2.1, hs.2.2.1.turn hT, hs.2.2.2.1.turn hT, hs.2.2.2.2.1.turn hT, hs.2.2.2.2.2.1.turn hT, hs.2.2.2.2.2.2.1.turn hT, hT.below hs.2.2.2.2.2.2.2 (by have := HR.out; omega)⟩
  case hIx => exact fun c pre X Y hs hT => hs
  case h0 => exact H4.out
  case stop => exact fun D c pre W hD hpre h _ => h.elim
  case round =>
    rintro l pre ⟨sk, c⟩ X K hl hpx hI hK
    have HI := Lib.hid hI
    have HKK := Lib.hid hK
    have hmem : (sk, c) ∈ s.res N := hpx.subset (by simp)
    have HSK := Lib.hid (show sk.size ≤ maxLen from HK.out _ hmem)
    clear hI hK hpx hmem
    gi_wp2
    refine HKK.out _ _ (keepsFrom_below (Below.refl _ _)) (KeepB.refl _ _) ?_
    intro W2 hT
    have HT := Lib.hid hT
    have HI2 := Lib.hid (show PlAt W2 N.Q s.σ s.C ∧ SmM W2 N.S s.M s.tot ∧ Blk W2 N.l 92 (limC N s.al s.de s.ba) ∧ Blk W2 r0 31 #[.pointer (some ⟨N.l, 0, none⟩)] ∧ Blk W2 r1 9 #[.string (lightL f pre).1] ∧ Blk W2 r2 2 #[.int .i64 (lightL f pre).2.1] ∧ Blk W2 r3 4 #[.bool (lightL f pre).2.2] ∧ Below w.heap.size w W2 from by
      have hs := HI.out
      exact ⟨KeepB.pl (KeepB.turn hT) hs.1, KeepB.smM (KeepB.turn hT) hs.2.1, hs.2.2.1.turn hT, hs.2.2.2.1.turn hT, hs.2.2.2.2.1.turn hT, hs.2.2.2.2.2.1.turn hT, hs.2.2.2.2.2.2.1.turn hT, hT.below hs.2.2.2.2.2.2.2 (by have := HR.out; omega)⟩)
    clear hT HI
    have CC := Lib.hid (fun (wx : World) (hx : SmM wx N.S s.M s.tot) => smcountM_any sk HSK.out wx hx)
    have CL := Lib.hid (fun (wx : World) (hx : SmM wx N.S s.M s.tot) => smleastS hx)
    have hv : f sk = if (tellM s.M sk).2.2 then (tellM s.M sk).1 else leastM N.S.N.n s.M := by rw [HF.out]; rfl
    obtain ⟨⟨tn, te, tk⟩, htt⟩ : ∃ x, x = tellM s.M sk := ⟨_, rfl⟩
    rw [← htt] at CC hv
    clear htt
    obtain ⟨lm, hlm⟩ : ∃ x, x = leastM N.S.N.n s.M := ⟨_, rfl⟩
    rw [← hlm] at CL hv
    clear hlm
    have z0 := HI2.out.2.2.2.1.rd
    have zl := HI2.out.2.2.1.rd
    cases tk
    focus
      obtain ⟨v, hvv⟩ : ∃ v, v = lm := ⟨_, rfl⟩
      have HV := Lib.hid (show f sk = v from by rw [hv, hvv]; rfl)
      rw [← hvv] at CL
      clear hv hvv
      gi_wp2
      refine ⟨trivial, rfl, (CallsIn.inRound l (callsIn_wide.2 (CC.out W2 HI2.out.2.1))).mono ?_⟩
      rintro e w3 ⟨rfl, b3⟩
      have B3 := Lib.hid b3
      have z0 := (HI2.out.2.2.2.1.keep b3).rd
      have zl := (HI2.out.2.2.1.keep b3).rd
      clear b3
      gi_wp2
      refine ⟨trivial, rfl, (CallsIn.inRound l (callsIn_wide.2 (CL.out w3 (HI2.out.2.1.keep B3.out)))).mono ?_⟩
      rintro e w5 ⟨rfl, b5⟩
      have B5 := Lib.hid (below_in B3.out b5)
      clear b5 z0 zl B3
    rotate_left
    focus
      obtain ⟨v, hvv⟩ : ∃ v, v = tn := ⟨_, rfl⟩
      have HV := Lib.hid (show f sk = v from by rw [hv, hvv]; rfl)
      rw [← hvv] at CC
      clear hv hvv
      gi_wp2
      refine ⟨trivial, rfl, (CallsIn.inRound l (callsIn_wide.2 (CC.out W2 HI2.out.2.1))).mono ?_⟩
      rintro e w5 ⟨rfl, b5⟩
      have B5 := Lib.hid b5
      clear b5 z0 zl
    rotate_left
    all_goals
      clear CC CL
      have HS := Lib.hid (lightL_snoc f pre (sk, c))
      have HI5 := Lib.hid (show Blk w5 r1 9 #[.string (lightL f pre).1] ∧ Blk w5 r2 2 #[.int .i64 (lightL f pre).2.1] ∧ Blk w5 r3 4 #[.bool (lightL f pre).2.2] from ⟨HI2.out.2.2.2.2.1.keep B5.out, HI2.out.2.2.2.2.2.1.keep B5.out, HI2.out.2.2.2.2.2.2.1.keep B5.out⟩)
      obtain ⟨⟨lk, ln, lf⟩, hle⟩ : ∃ x, x = lightL f pre := ⟨_, rfl⟩
      rw [← hle] at HI5 HS
      clear hle
      have v1 := HI5.out.1.rd
      have v2 := HI5.out.2.1.rd
      have v3 := HI5.out.2.2.rd
      have u1 := HI5.out.1.wr
      have u2 := HI5.out.2.1.wr
      have u3 := HI5.out.2.2.wr
      have hr := HR.out
      have n12 : r1 ≠ r2 := by omega
      have n13 : r1 ≠ r3 := by omega
      have n23 : r2 ≠ r3 := by omega
      have n21 : r2 ≠ r1 := by omega
      have n31 : r3 ≠ r1 := by omega
      have n32 : r3 ≠ r2 := by omega
      clear hr
      have hcase : (lf = false) ∨ (lf = true ∧ decide (v < ln) = true) ∨ (lf = true ∧ decide (v < ln) = false) := by
        cases lf
        · exact Or.inl rfl
        · cases decide (v < ln) <;> simp
      rcases hcase with rfl | ⟨rfl, t1⟩ | ⟨rfl, t1⟩
      focus
        have HS := Lib.hid (show lightL f (pre ++ [(sk, c)]) = (sk, v, true) from by rw [HS.out]; unfold lightS; rw [if_pos (Or.inl rfl), HV.out])
        gi_wp2
      rotate_left
      focus
        have HS := Lib.hid (show lightL f (pre ++ [(sk, c)]) = (sk, v, true) from by rw [HS.out]; unfold lightS; rw [HV.out, if_pos (Or.inr (of_decide_eq_true t1))])
        gi_wp2
      rotate_left
      focus
        have HS := Lib.hid (show lightL f (pre ++ [(sk, c)]) = (lk, ln, true) from by rw [HS.out]; unfold lightS; rw [HV.out, if_neg (by intro h; rcases h with h | h; cases h; exact absurd h (of_decide_eq_false t1))])
        gi_wp2
        refine ⟨keepsFrom_below B5.out, KeepB.below B5.out, ?_⟩
        dsimp only
        rw [HS.out]
        have hs := HI2.out
        exact ⟨hs.1.keep B5.out, hs.2.1.keep B5.out, hs.2.2.1.keep B5.out, hs.2.2.2.1.keep B5.out, HI5.out.1, HI5.out.2.1, HI5.out.2.2, below_in hs.2.2.2.2.2.2.2 B5.out⟩
      all_goals
        have hr := HR.out
        have q1 := HI5.out.1
        have q2 := HI5.out.2.1
        have q3 := HI5.out.2.2
        obtain ⟨Y, hY, y1, y2, y3, fY⟩ := three_put q1 q2 q3 n12 n13 n23 (.string sk) (.int .i64 v) (.bool true)
        rw [hY]
        have hs := HI2.out
        have hlt := HN.out
        have hB5 := below_in hs.2.2.2.2.2.2.2 B5.out
        refine ⟨(keepsFrom_below B5.out).trans (keepsFrom_fr fY (fun k o hk hB => by omega)), (KeepB.below B5.out).trans (KeepB.fr fY (fun k hk => by have := hlt k (Or.inl (Or.inl hk)); omega)), ?_⟩
        dsimp only
        rw [HS.out]
        exact ⟨(hs.1.keep B5.out).fr fY (fun k hk => by have := hlt k (Or.inl (Or.inl hk)); omega), (hs.2.1.keep B5.out).fr fY (fun k hk => by have := hlt k (Or.inl (Or.inr (Or.inr hk))); omega), (hs.2.2.1.keep B5.out).fr fY (by have := hlt N.l (Or.inr rfl); omega), (hs.2.2.2.1.keep B5.out).fr fY (by omega), y1, y2, y3, hB5.trans (fY.below hB5.size (fun k hk => by omega))⟩
  case done =>
    rintro D X hD ⟨hP, hM, hlb, k0, k1, k2, k3, hB⟩ hd
    obtain ⟨⟨lk, ln, lf⟩, hle⟩ : ∃ x, x = lightL f (s.res N) := ⟨_, rfl⟩
    have hle' : lightL f (plL s.σ.K s.C N.Q.N.n) = (lk, ln, lf) := hle.symm
    rw [hle'] at k1 k2 k3
    have HLE := Lib.hid hle
    have v1 := k1.rd
    have v2 := k2.rd
    have v3 := k3.rd
    have HX := Lib.hid (And.intro hB hd)
    have HDD := Lib.hid hD
    clear hP hM hlb k0 k1 k2 k3 hB hd hle hle' hD
    go_upto_region 9 with (fail)
    refine wp_region_held_drew (S := fun Wo => (∀ j, Wo.cell? ⟨r1, j, none⟩ = (#[.string lk] : Array Value)[j]?) ∧ (∀ j, Wo.cell? ⟨r2, j, none⟩ = (#[.int .i64 ln] : Array Value)[j]?) ∧ (∀ j, Wo.cell? ⟨r3, j, none⟩ = (#[.bool lf] : Array Value)[j]?)) (by kernel_rfl) ⟨v1, v2, v3⟩ (fun hHeld => ?_)
    refine wpAnyH_take (i := 0) (oi := ?_) (v := ?_) ?_ ?_ ?_ ?_ ?_ ?_ ?_ ?_
    rotate_left 2
    · simp only [List.getElem?_toArray, List.getElem?_cons_succ, List.getElem?_cons_zero]; rfl
    · kernel_rfl
    · kernel_rfl
    · kernel_rfl
    · exact fun _ _ _ h => h
    · refine Or.inl ⟨by rfl, ?_⟩
      intro w' hSw
      (try dsimp only at hSw)
      go_simp
      all_goals (with_reducible rfl)
    · assumption
    try simp only [Act.put, List.setIfInBounds_toArray, List.set_cons_zero, List.set_cons_succ]
    refine wpAnyH_take (i := 1) (oi := ?_) (v := ?_) ?_ ?_ ?_ ?_ ?_ ?_ ?_ ?_
    rotate_left 2
    · simp only [List.getElem?_toArray, List.getElem?_cons_succ, List.getElem?_cons_zero]; rfl
    · kernel_rfl
    · kernel_rfl
    · kernel_rfl
    · exact fun _ _ _ h => h
    · refine Or.inl ⟨by rfl, ?_⟩
      intro w' hSw
      (try dsimp only at hSw)
      go_simp
      all_goals (with_reducible rfl)
    · assumption
    try simp only [Act.put, List.setIfInBounds_toArray, List.set_cons_zero, List.set_cons_succ]
    refine wpAnyH_take (i := 2) (oi := ?_) (v := ?_) ?_ ?_ ?_ ?_ ?_ ?_ ?_ ?_
    rotate_left 2
    · simp only [List.getElem?_toArray, List.getElem?_cons_succ, List.getElem?_cons_zero]; rfl
    · kernel_rfl
    · kernel_rfl
    · kernel_rfl
    · exact fun _ _ _ h => h
    · refine Or.inl ⟨by rfl, ?_⟩
      intro w' hSw
      (try dsimp only at hSw)
      go_simp
      all_goals (with_reducible rfl)
    · assumption
    try simp only [Act.put, List.setIfInBounds_toArray, List.set_cons_zero, List.set_cons_succ]
    refine wpAnyH_take (i := 3) (oi := ?_) (v := ?_) ?_ ?_ ?_ ?_ ?_ ?_ ?_ ?_
    rotate_left 2
    · simp only [List.getElem?_toArray, List.getElem?_cons_succ, List.getElem?_cons_zero]; rfl
    · kernel_rfl
    · kernel_rfl
    · kernel_rfl
    · exact fun _ _ _ h => h
    · refine Or.inl ⟨by rfl, ?_⟩
      intro w' hSw
      (try dsimp only at hSw)
      go_simp
      all_goals (with_reducible rfl)
    · assumption
    try simp only [Act.put, List.setIfInBounds_toArray, List.set_cons_zero, List.set_cons_succ]
    refine wpAnyH_take (i := 4) (oi := ?_) (v := ?_) ?_ ?_ ?_ ?_ ?_ ?_ ?_ ?_
    rotate_left 2
    · simp only [List.getElem?_toArray, List.getElem?_cons_succ, List.getElem?_cons_zero]; rfl
    · kernel_rfl
    · kernel_rfl
    · kernel_rfl
    · exact fun _ _ _ h => h
    · refine Or.inl ⟨by rfl, ?_⟩
      intro w' hSw
      (try dsimp only at hSw)
      go_simp
      all_goals (with_reducible rfl)
    · assumption
    try simp only [Act.put, List.setIfInBounds_toArray, List.set_cons_zero, List.set_cons_succ]
    refine wpAnyH_take (i := 5) (oi := ?_) (v := ?_) ?_ ?_ ?_ ?_ ?_ ?_ ?_ ?_
    rotate_left 2
    · simp only [List.getElem?_toArray, List.getElem?_cons_succ, List.getElem?_cons_zero]; rfl
    · kernel_rfl
    · kernel_rfl
    · kernel_rfl
    · exact fun _ _ _ h => h
    · refine Or.inl ⟨by rfl, ?_⟩
      intro w' hSw
      (try dsimp only at hSw)
      go_simp
      all_goals (with_reducible rfl)
    · assumption
    try simp only [Act.put, List.setIfInBounds_toArray, List.set_cons_zero, List.set_cons_succ]
    refine wpAnyH_done (by kernel_rfl) ?_ _
    clear hHeld
    go_wp2
    have hT := Turn.putObj X.drew w4.heap.size D (.deferred none) HDD.out HX.out.2 rfl
    refine bodyM_mark rfl HX.out.2 (results_t3 rfl _ _) ⟨by rw [← HLE.out]; rfl, hT.below (below_draws HX.out.1 1) (by have := HR.out; omega)⟩
end
end Go.Proofs.YtbgcpljekcagiaaGreat
/- The contracts of layer 12 (limiter): giver, evict. -/
namespace Go.Proofs.YtbgcpljekcagiaaGreat
set_option linter.unusedSimpArgs false
set_option linter.unusedVariables false
set_option maxRecDepth 100000
open Go.ChangeShapes Go.WideShapes Go.ChangeAt Go.RowKit
open Ar (inR)
theorem tell_bd {w : World} {Q : SmN} {M : List Tri} {tot : Int} (h : SmM w Q M tot) (k : ByteArray) : (0 ≤ (tellM M k).1 ∧ (tellM M k).1 ≤ 4611686018427387904) ∧ (0 ≤ (tellM M k).2.1 ∧ (tellM M k).2.1 ≤ 4611686018427387904) := by
  obtain ⟨L, σ, g, rfl⟩ := h
  unfold tellM
  cases hf : (L.map Ent.c).find? (fun t => decide (t.1 = k)) with
  | none => exact ⟨⟨Int.le_refl _, by decide⟩, Int.le_refl _, by decide⟩
  | some t =>
    obtain ⟨x, hx, rfl⟩ := List.mem_map.1 (List.mem_of_find?_eq_some hf)
    have h1 := g.ok.bd x hx
    have h2 := g.ok.tb
    exact ⟨⟨h1.1, by show x.n ≤ _; omega⟩, h1.2.2.1, by show x.e ≤ _; omega⟩
section
variable {N : LmN} {s : LmS}
/-- the resident key whose cell a key may take. -/
def LmS.giver (s : LmS) (N : LmN) (now : Int) (key : ByteArray) : Option ByteArray :=
  match plIdle (s.res N) N.W now with
  | some x => some x.1
  | none => if (tellM s.M key).2.2 = false then none else if (s.light N).2.2 = false ∨ (tellM s.M key).1 - (tellM s.M key).2.1 ≤ (s.light N).2.1 then none else some (s.light N).1
def giveV : Option ByteArray → Value
  | some k => .tuple #[.string k, .bool true]
  | none => .tuple #[.string ⟨#[]⟩, .bool false]
set_option maxHeartbeats 4000000 in
theorem lmgiver_any (now : Int) (key : ByteArray) (hs : key.size ≤ maxLen) (w : World) (h : LmAt w N s) (hg : LmG N s now) (hk : ∀ x ∈ s.res N, x.1.size ≤ maxLen) :
    Calls Tryz.prog 98 #[.pointer (some ⟨N.l, 0, none⟩), .int .i64 now, .string key] w fun e w' => e = .returned (giveV (s.giver N now key)) ∧ Below w.heap.size w w' := by
  have hW : inR N.W := by unfold inR; have := hg.W; omega
  have CI := Lib.hid (fun wx (hx : LmAt wx N s) => plidle_any N.Q s.σ s.C N.U N.W N.B N.L now hW wx hx.hp (fun x hx => by have := (hg.c x hx).1.S; unfold inR; omega))
  have CC := Lib.hid (fun wx (hx : LmAt wx N s) => smcountM_any key hs wx hx.hm)
  have CL := Lib.hid (fun wx (hx : LmAt wx N s) => lmlightest_any wx hx hk)
  have hb := tell_bd h.hm key
  have eg : s.giver N now key = match plIdle (s.res N) N.W now with
      | some x => some x.1
      | none => if (tellM s.M key).2.2 = false then none else if (s.light N).2.2 = false ∨ (tellM s.M key).1 - (tellM s.M key).2.1 ≤ (s.light N).2.1 then none else some (s.light N).1 := rfl
  rw [eg]
  obtain ⟨⟨tn, te, tk⟩, ht⟩ : ∃ x, x = tellM s.M key := ⟨_, rfl⟩
  obtain ⟨⟨lk, ln, lf⟩, hl⟩ : ∃ x, x = s.light N := ⟨_, rfl⟩
  rw [← ht] at CC hb ⊢
  rw [← hl] at CL ⊢
  have H0 := Lib.hid h
  have ST := Lib.hid (fun (Wo : World) (hW : LmAt Wo N s) => hW.hl.rd)
  have BN := Lib.hid (show Below w.heap.size w w.drew from below_draws (Below.refl _ _) 1)
  have ew : IntKind.i64.wrap (tn - te) = tn - te := by rw [IntKind.wrap_i64]; have := hb.1; have := hb.2; dsimp only at *; omega
  obtain ⟨d, hd⟩ : ∃ d, d = tn - te := ⟨_, rfl⟩
  rw [← hd] at ew
  have hdb : -9223372036854775808 ≤ tn - te ∧ tn - te ≤ 9223372036854775807 := by have := hb.1; have := hb.2; dsimp only at *; omega
  have ed : tn - te = d := hd.symm
  clear hd
  have CK := ST.out
  have st := ST.out _ (h.keep BN.out)
  clear CK h eg ht hl hb
  cases hp : plIdle (s.res N) N.W now with
  | some x =>
    have CI := Lib.hid (fun wx (hx : LmAt wx N s) => show Calls Tryz.prog 80 #[.pointer (some ⟨N.Q.p, 0, none⟩), pv N.U N.W N.B N.L, .int .i64 now] wx (fun e w' => e = .returned (.tuple #[.string x.1, .bool true]) ∧ Below wx.heap.size wx w') from (CI.out wx hx).mono (fun e w' hh => by
      obtain ⟨⟨y, hy⟩, hb⟩ := hh
      rcases hy with ⟨hy, he⟩ | ⟨hy, he⟩
      · have : some y = some x := hy.symm.trans hp
        cases this
        exact ⟨he, hb⟩
      · exact absurd (hy.symm.trans hp) (by simp)))
    clear hp CC CL
    go_enter Tryz.func98, Tryz.ntmps98
    go_upto_region 1 with (fail)
    refine wp_region_held_drew (S := fun Wo => ∀ j, Wo.cell? ⟨N.l, j, none⟩ = (limC N s.al s.de s.ba)[j]?) (by kernel_rfl) st (fun hHeld => ?_)
    clear st
    refine wpAnyH_take (i := 0) (oi := ?_) (v := ?_) ?_ ?_ ?_ ?_ ?_ ?_ ?_ ?_
    rotate_left 2
    · simp only [List.getElem?_toArray, List.getElem?_cons_succ, List.getElem?_cons_zero]; rfl
    · kernel_rfl
    · kernel_rfl
    · kernel_rfl
    · exact fun _ _ _ h => h
    · refine Or.inl ⟨by rfl, ?_⟩
      intro w' hSw
      (try dsimp only at hSw)
      go_simp
      all_goals (with_reducible rfl)
    · assumption
    try simp only [Act.put, List.setIfInBounds_toArray, List.set_cons_zero, List.set_cons_succ]
    refine wpAnyH_take (i := 1) (oi := ?_) (v := ?_) ?_ ?_ ?_ ?_ ?_ ?_ ?_ ?_
    rotate_left 2
    · simp only [List.getElem?_toArray, List.getElem?_cons_succ, List.getElem?_cons_zero]; rfl
    · kernel_rfl
    · kernel_rfl
    · kernel_rfl
    · exact fun _ _ _ h => h
    · refine Or.inl ⟨by rfl, ?_⟩
      intro w' hSw
      (try dsimp only at hSw)
      go_simp
      all_goals (with_reducible rfl)
    · assumption
    try simp only [Act.put, List.setIfInBounds_toArray, List.set_cons_zero, List.set_cons_succ]
    refine wpAnyH_take (i := 2) (oi := ?_) (v := ?_) ?_ ?_ ?_ ?_ ?_ ?_ ?_ ?_
    rotate_left 2
    · simp only [List.getElem?_toArray, List.getElem?_cons_succ, List.getElem?_cons_zero]; rfl
    · kernel_rfl
    · kernel_rfl
    · kernel_rfl
    · exact fun _ _ _ h => h
    · refine Or.inl ⟨by rfl, ?_⟩
      intro w' hSw
      (try dsimp only at hSw)
      go_simp
      all_goals (with_reducible rfl)
    · assumption
    try simp only [Act.put, List.setIfInBounds_toArray, List.set_cons_zero, List.set_cons_succ]
    refine wpAnyH_take (i := 3) (oi := ?_) (v := ?_) ?_ ?_ ?_ ?_ ?_ ?_ ?_ ?_
    rotate_left 2
    · simp only [List.getElem?_toArray, List.getElem?_cons_succ, List.getElem?_cons_zero]; rfl
    · kernel_rfl
    · kernel_rfl
    · kernel_rfl
    · exact fun _ _ _ h => h
    · refine Or.inl ⟨by rfl, ?_⟩
      intro w' hSw
      (try dsimp only at hSw)
      go_simp
      all_goals (with_reducible rfl)
    · assumption
    try simp only [Act.put, List.setIfInBounds_toArray, List.set_cons_zero, List.set_cons_succ]
    refine wpAnyH_take (i := 4) (oi := ?_) (v := ?_) ?_ ?_ ?_ ?_ ?_ ?_ ?_ ?_
    rotate_left 2
    · simp only [List.getElem?_toArray, List.getElem?_cons_succ, List.getElem?_cons_zero]; rfl
    · kernel_rfl
    · kernel_rfl
    · kernel_rfl
    · exact fun _ _ _ h => h
    · refine Or.inl ⟨by rfl, ?_⟩
      intro w' hSw
      (try dsimp only at hSw)
      go_simp
      all_goals (with_reducible rfl)
    · assumption
    try simp only [Act.put, List.setIfInBounds_toArray, List.set_cons_zero, List.set_cons_succ]
    refine wpAnyH_take (i := 5) (oi := ?_) (v := ?_) ?_ ?_ ?_ ?_ ?_ ?_ ?_ ?_
    rotate_left 2
    · simp only [List.getElem?_toArray, List.getElem?_cons_succ, List.getElem?_cons_zero]; rfl
    · kernel_rfl
    · kernel_rfl
    · kernel_rfl
    · exact fun _ _ _ h => h
    · refine Or.inl ⟨by rfl, ?_⟩
      intro w' hSw
      (try dsimp only at hSw)
      go_simp
      all_goals (with_reducible rfl)
    · assumption
    try simp only [Act.put, List.setIfInBounds_toArray, List.set_cons_zero, List.set_cons_succ]
    refine wpAnyH_take (i := 6) (oi := ?_) (v := ?_) ?_ ?_ ?_ ?_ ?_ ?_ ?_ ?_
    rotate_left 2
    · simp only [List.getElem?_toArray, List.getElem?_cons_succ, List.getElem?_cons_zero]; rfl
    · kernel_rfl
    · kernel_rfl
    · kernel_rfl
    · exact fun _ _ _ h => h
    · refine Or.inl ⟨by rfl, ?_⟩
      intro w' hSw
      (try dsimp only at hSw)
      go_simp
      all_goals (with_reducible rfl)
    · assumption
    try simp only [Act.put, List.setIfInBounds_toArray, List.set_cons_zero, List.set_cons_succ]
    refine wpAnyH_take (i := 7) (oi := ?_) (v := ?_) ?_ ?_ ?_ ?_ ?_ ?_ ?_ ?_
    rotate_left 2
    · simp only [List.getElem?_toArray, List.getElem?_cons_succ, List.getElem?_cons_zero]; rfl
    · kernel_rfl
    · kernel_rfl
    · kernel_rfl
    · exact fun _ _ _ h => h
    · refine Or.inl ⟨by rfl, ?_⟩
      intro w' hSw
      (try dsimp only at hSw)
      go_simp
      all_goals (with_reducible rfl)
    · assumption
    try simp only [Act.put, List.setIfInBounds_toArray, List.set_cons_zero, List.set_cons_succ]
    refine wpAnyH_take (i := 8) (oi := ?_) (v := ?_) ?_ ?_ ?_ ?_ ?_ ?_ ?_ ?_
    rotate_left 2
    · simp only [List.getElem?_toArray, List.getElem?_cons_succ, List.getElem?_cons_zero]; rfl
    · kernel_rfl
    · kernel_rfl
    · kernel_rfl
    · exact fun _ _ _ h => h
    · refine Or.inl ⟨by rfl, ?_⟩
      intro w' hSw
      (try dsimp only at hSw)
      go_simp
      all_goals (with_reducible rfl)
    · assumption
    try simp only [Act.put, List.setIfInBounds_toArray, List.set_cons_zero, List.set_cons_succ]
    refine wpAnyH_ready (rs := [9]) (by kernel_rfl) (by simp) ?_
    refine AllReadyH.cons (o := ?_) ?_ ?_ ?_
    rotate_left 1
    · simp only [List.getElem?_toArray, List.getElem?_cons_succ, List.getElem?_cons_zero]; rfl
    rotate_left 1
    · exact AllReadyH.nil
    intro K hK
    go_simp
    ((with_reducible refine (CI.out _ (H0.out.keep BN.out)).mono ?_); rintro e w9 ⟨rfl, be⟩; have N9 := Lib.hid (G.below_on BN.out be); clear be)
    refine hK.out _ _ (ST.out _ (H0.out.keep N9.out)) (fun hHeld => ?_)
    clear hK K
    try simp only [Act.put, List.setIfInBounds_toArray, List.set_cons_zero, List.set_cons_succ]
    refine wpAnyH_take (i := 10) (oi := ?_) (v := ?_) ?_ ?_ ?_ ?_ ?_ ?_ ?_ ?_
    rotate_left 2
    · simp only [List.getElem?_toArray, List.getElem?_cons_succ, List.getElem?_cons_zero]; rfl
    · kernel_rfl
    · kernel_rfl
    · kernel_rfl
    · exact fun _ _ _ h => h
    · refine Or.inl ⟨by rfl, ?_⟩
      intro w' hSw
      (try dsimp only at hSw)
      go_simp
      all_goals (with_reducible rfl)
    · assumption
    try simp only [Act.put, List.setIfInBounds_toArray, List.set_cons_zero, List.set_cons_succ]
    refine wpAnyH_take (i := 11) (oi := ?_) (v := ?_) ?_ ?_ ?_ ?_ ?_ ?_ ?_ ?_
    rotate_left 2
    · simp only [List.getElem?_toArray, List.getElem?_cons_succ, List.getElem?_cons_zero]; rfl
    · kernel_rfl
    · kernel_rfl
    · kernel_rfl
    · exact fun _ _ _ h => h
    · refine Or.inl ⟨by rfl, ?_⟩
      intro w' hSw
      (try dsimp only at hSw)
      go_simp
      all_goals (with_reducible rfl)
    · assumption
    try simp only [Act.put, List.setIfInBounds_toArray, List.set_cons_zero, List.set_cons_succ]
    refine wpAnyH_take (i := 12) (oi := ?_) (v := ?_) ?_ ?_ ?_ ?_ ?_ ?_ ?_ ?_
    rotate_left 2
    · simp only [List.getElem?_toArray, List.getElem?_cons_succ, List.getElem?_cons_zero]; rfl
    · kernel_rfl
    · kernel_rfl
    · kernel_rfl
    · exact fun _ _ _ h => h
    · refine Or.inl ⟨by rfl, ?_⟩
      intro w' hSw
      (try dsimp only at hSw)
      go_simp
      all_goals (with_reducible rfl)
    · assumption
    try simp only [Act.put, List.setIfInBounds_toArray, List.set_cons_zero, List.set_cons_succ]
    refine wpAnyH_take (i := 13) (oi := ?_) (v := ?_) ?_ ?_ ?_ ?_ ?_ ?_ ?_ ?_
    rotate_left 2
    · simp only [List.getElem?_toArray, List.getElem?_cons_succ, List.getElem?_cons_zero]; rfl
    · kernel_rfl
    · kernel_rfl
    · kernel_rfl
    · exact fun _ _ _ h => h
    · refine Or.inl ⟨by rfl, ?_⟩
      intro w' hSw
      (try dsimp only at hSw)
      go_simp
      all_goals (with_reducible rfl)
    · assumption
    try simp only [Act.put, List.setIfInBounds_toArray, List.set_cons_zero, List.set_cons_succ]
    refine wpAnyH_take (i := 14) (oi := ?_) (v := ?_) ?_ ?_ ?_ ?_ ?_ ?_ ?_ ?_
    rotate_left 2
    · simp only [List.getElem?_toArray, List.getElem?_cons_succ, List.getElem?_cons_zero]; rfl
    · kernel_rfl
    · kernel_rfl
    · kernel_rfl
    · exact fun _ _ _ h => h
    · refine Or.inl ⟨by rfl, ?_⟩
      intro w' hSw
      (try dsimp only at hSw)
      go_simp
      all_goals (with_reducible rfl)
    · assumption
    try simp only [Act.put, List.setIfInBounds_toArray, List.set_cons_zero, List.set_cons_succ]
    refine wpAnyH_done (by kernel_rfl) ?_ _
    clear hHeld
    go_wp2
    go_ret2
    exact ⟨rfl, N9.out⟩
  | none =>
    have CI := Lib.hid (fun wx (hx : LmAt wx N s) => show Calls Tryz.prog 80 #[.pointer (some ⟨N.Q.p, 0, none⟩), pv N.U N.W N.B N.L, .int .i64 now] wx (fun e w' => e = .returned (.tuple #[.string ⟨#[]⟩, .bool false]) ∧ Below wx.heap.size wx w') from (CI.out wx hx).mono (fun e w' hh => by
      obtain ⟨⟨y, hy⟩, hb⟩ := hh
      rcases hy with ⟨hy, he⟩ | ⟨hy, he⟩
      · exact absurd (hy.symm.trans hp) (by simp)
      · exact ⟨he, hb⟩))
    clear hp
    have hcase : tk = false ∨ (tk = true ∧ lf = false) ∨ (tk = true ∧ lf = true ∧ decide (d ≤ ln) = true) ∨ (tk = true ∧ lf = true ∧ decide (d ≤ ln) = false) := by
      cases tk <;> cases lf <;> cases decide (d ≤ ln) <;> simp
    rcases hcase with rfl | ⟨rfl, rfl⟩ | ⟨rfl, rfl, t1⟩ | ⟨rfl, rfl, t1⟩
    focus
      simp only [if_true]
      have HL := Lib.hid trivial
    rotate_left
    focus
      simp only [Bool.true_eq_false, if_false, true_or, if_true]
    rotate_left
    focus
      have t2 := of_decide_eq_true t1
      simp only [Bool.true_eq_false, if_false, false_or]
      rw [ed, if_pos t2]
      clear t2
    rotate_left
    focus
      have t2 := of_decide_eq_false t1
      simp only [Bool.true_eq_false, if_false, false_or]
      rw [ed, if_neg t2]
      clear t2
    rotate_left
    all_goals
      go_enter Tryz.func98, Tryz.ntmps98
      go_upto_region 1 with (fail)
      refine wp_region_held_drew (S := fun Wo => ∀ j, Wo.cell? ⟨N.l, j, none⟩ = (limC N s.al s.de s.ba)[j]?) (by kernel_rfl) st (fun hHeld => ?_)
      clear st
      refine wpAnyH_take (i := 0) (oi := ?_) (v := ?_) ?_ ?_ ?_ ?_ ?_ ?_ ?_ ?_
      rotate_left 2
      · simp only [List.getElem?_toArray, List.getElem?_cons_succ, List.getElem?_cons_zero]; rfl
      · kernel_rfl
      · kernel_rfl
      · kernel_rfl
      · exact fun _ _ _ h => h
      · refine Or.inl ⟨by rfl, ?_⟩
        intro w' hSw
        (try dsimp only at hSw)
        go_simp
        all_goals (with_reducible rfl)
      · assumption
      try simp only [Act.put, List.setIfInBounds_toArray, List.set_cons_zero, List.set_cons_succ]
      refine wpAnyH_take (i := 1) (oi := ?_) (v := ?_) ?_ ?_ ?_ ?_ ?_ ?_ ?_ ?_
      rotate_left 2
      · simp only [List.getElem?_toArray, List.getElem?_cons_succ, List.getElem?_cons_zero]; rfl
      · kernel_rfl
      · kernel_rfl
      · kernel_rfl
      · exact fun _ _ _ h => h
      · refine Or.inl ⟨by rfl, ?_⟩
        intro w' hSw
        (try dsimp only at hSw)
        go_simp
        all_goals (with_reducible rfl)
      · assumption
      try simp only [Act.put, List.setIfInBounds_toArray, List.set_cons_zero, List.set_cons_succ]
      refine wpAnyH_take (i := 2) (oi := ?_) (v := ?_) ?_ ?_ ?_ ?_ ?_ ?_ ?_ ?_
      rotate_left 2
      · simp only [List.getElem?_toArray, List.getElem?_cons_succ, List.getElem?_cons_zero]; rfl
      · kernel_rfl
      · kernel_rfl
      · kernel_rfl
      · exact fun _ _ _ h => h
      · refine Or.inl ⟨by rfl, ?_⟩
        intro w' hSw
        (try dsimp only at hSw)
        go_simp
        all_goals (with_reducible rfl)
      · assumption
      try simp only [Act.put, List.setIfInBounds_toArray, List.set_cons_zero, List.set_cons_succ]
      refine wpAnyH_take (i := 3) (oi := ?_) (v := ?_) ?_ ?_ ?_ ?_ ?_ ?_ ?_ ?_
      rotate_left 2
      · simp only [List.getElem?_toArray, List.getElem?_cons_succ, List.getElem?_cons_zero]; rfl
      · kernel_rfl
      · kernel_rfl
      · kernel_rfl
      · exact fun _ _ _ h => h
      · refine Or.inl ⟨by rfl, ?_⟩
        intro w' hSw
        (try dsimp only at hSw)
        go_simp
        all_goals (with_reducible rfl)
      · assumption
      try simp only [Act.put, List.setIfInBounds_toArray, List.set_cons_zero, List.set_cons_succ]
      refine wpAnyH_take (i := 4) (oi := ?_) (v := ?_) ?_ ?_ ?_ ?_ ?_ ?_ ?_ ?_
      rotate_left 2
      · simp only [List.getElem?_toArray, List.getElem?_cons_succ, List.getElem?_cons_zero]; rfl
      · kernel_rfl
      · kernel_rfl
      · kernel_rfl
      · exact fun _ _ _ h => h
      · refine Or.inl ⟨by rfl, ?_⟩
        intro w' hSw
        (try dsimp only at hSw)
        go_simp
        all_goals (with_reducible rfl)
      · assumption
      try simp only [Act.put, List.setIfInBounds_toArray, List.set_cons_zero, List.set_cons_succ]
      refine wpAnyH_take (i := 5) (oi := ?_) (v := ?_) ?_ ?_ ?_ ?_ ?_ ?_ ?_ ?_
      rotate_left 2
      · simp only [List.getElem?_toArray, List.getElem?_cons_succ, List.getElem?_cons_zero]; rfl
      · kernel_rfl
      · kernel_rfl
      · kernel_rfl
      · exact fun _ _ _ h => h
      · refine Or.inl ⟨by rfl, ?_⟩
        intro w' hSw
        (try dsimp only at hSw)
        go_simp
        all_goals (with_reducible rfl)
      · assumption
      try simp only [Act.put, List.setIfInBounds_toArray, List.set_cons_zero, List.set_cons_succ]
      refine wpAnyH_take (i := 6) (oi := ?_) (v := ?_) ?_ ?_ ?_ ?_ ?_ ?_ ?_ ?_
      rotate_left 2
      · simp only [List.getElem?_toArray, List.getElem?_cons_succ, List.getElem?_cons_zero]; rfl
      · kernel_rfl
      · kernel_rfl
      · kernel_rfl
      · exact fun _ _ _ h => h
      · refine Or.inl ⟨by rfl, ?_⟩
        intro w' hSw
        (try dsimp only at hSw)
        go_simp
        all_goals (with_reducible rfl)
      · assumption
      try simp only [Act.put, List.setIfInBounds_toArray, List.set_cons_zero, List.set_cons_succ]
      refine wpAnyH_take (i := 7) (oi := ?_) (v := ?_) ?_ ?_ ?_ ?_ ?_ ?_ ?_ ?_
      rotate_left 2
      · simp only [List.getElem?_toArray, List.getElem?_cons_succ, List.getElem?_cons_zero]; rfl
      · kernel_rfl
      · kernel_rfl
      · kernel_rfl
      · exact fun _ _ _ h => h
      · refine Or.inl ⟨by rfl, ?_⟩
        intro w' hSw
        (try dsimp only at hSw)
        go_simp
        all_goals (with_reducible rfl)
      · assumption
      try simp only [Act.put, List.setIfInBounds_toArray, List.set_cons_zero, List.set_cons_succ]
      refine wpAnyH_take (i := 8) (oi := ?_) (v := ?_) ?_ ?_ ?_ ?_ ?_ ?_ ?_ ?_
      rotate_left 2
      · simp only [List.getElem?_toArray, List.getElem?_cons_succ, List.getElem?_cons_zero]; rfl
      · kernel_rfl
      · kernel_rfl
      · kernel_rfl
      · exact fun _ _ _ h => h
      · refine Or.inl ⟨by rfl, ?_⟩
        intro w' hSw
        (try dsimp only at hSw)
        go_simp
        all_goals (with_reducible rfl)
      · assumption
      try simp only [Act.put, List.setIfInBounds_toArray, List.set_cons_zero, List.set_cons_succ]
      refine wpAnyH_ready (rs := [9]) (by kernel_rfl) (by simp) ?_
      refine AllReadyH.cons (o := ?_) ?_ ?_ ?_
      rotate_left 1
      · simp only [List.getElem?_toArray, List.getElem?_cons_succ, List.getElem?_cons_zero]; rfl
      rotate_left 1
      · exact AllReadyH.nil
      intro K hK
      go_simp
      ((with_reducible refine (CI.out _ (H0.out.keep BN.out)).mono ?_); rintro e w9 ⟨rfl, be⟩; have N9 := Lib.hid (G.below_on BN.out be); clear be)
      refine hK.out _ _ (ST.out _ (H0.out.keep N9.out)) (fun hHeld => ?_)
      clear hK K
      try simp only [Act.put, List.setIfInBounds_toArray, List.set_cons_zero, List.set_cons_succ]
      refine wpAnyH_take (i := 10) (oi := ?_) (v := ?_) ?_ ?_ ?_ ?_ ?_ ?_ ?_ ?_
      rotate_left 2
      · simp only [List.getElem?_toArray, List.getElem?_cons_succ, List.getElem?_cons_zero]; rfl
      · kernel_rfl
      · kernel_rfl
      · kernel_rfl
      · exact fun _ _ _ h => h
      · refine Or.inl ⟨by rfl, ?_⟩
        intro w' hSw
        (try dsimp only at hSw)
        go_simp
        all_goals (with_reducible rfl)
      · assumption
      try simp only [Act.put, List.setIfInBounds_toArray, List.set_cons_zero, List.set_cons_succ]
      refine wpAnyH_take (i := 11) (oi := ?_) (v := ?_) ?_ ?_ ?_ ?_ ?_ ?_ ?_ ?_
      rotate_left 2
      · simp only [List.getElem?_toArray, List.getElem?_cons_succ, List.getElem?_cons_zero]; rfl
      · kernel_rfl
      · kernel_rfl
      · kernel_rfl
      · exact fun _ _ _ h => h
      · refine Or.inl ⟨by rfl, ?_⟩
        intro w' hSw
        (try dsimp only at hSw)
        go_simp
        all_goals (with_reducible rfl)
      · assumption
      try simp only [Act.put, List.setIfInBounds_toArray, List.set_cons_zero, List.set_cons_succ]
      refine wpAnyH_take (i := 12) (oi := ?_) (v := ?_) ?_ ?_ ?_ ?_ ?_ ?_ ?_ ?_
      rotate_left 2
      · simp only [List.getElem?_toArray, List.getElem?_cons_succ, List.getElem?_cons_zero]; rfl
      · kernel_rfl
      · kernel_rfl
      · kernel_rfl
      · exact fun _ _ _ h => h
      · refine Or.inl ⟨by rfl, ?_⟩
        intro w' hSw
        (try dsimp only at hSw)
        go_simp
        all_goals (with_reducible rfl)
      · assumption
      try simp only [Act.put, List.setIfInBounds_toArray, List.set_cons_zero, List.set_cons_succ]
      refine wpAnyH_take (i := 13) (oi := ?_) (v := ?_) ?_ ?_ ?_ ?_ ?_ ?_ ?_ ?_
      rotate_left 2
      · simp only [List.getElem?_toArray, List.getElem?_cons_succ, List.getElem?_cons_zero]; rfl
      · kernel_rfl
      · kernel_rfl
      · kernel_rfl
      · exact fun _ _ _ h => h
      · refine Or.inl ⟨by rfl, ?_⟩
        intro w' hSw
        (try dsimp only at hSw)
        go_simp
        all_goals (with_reducible rfl)
      · assumption
      try simp only [Act.put, List.setIfInBounds_toArray, List.set_cons_zero, List.set_cons_succ]
      refine wpAnyH_take (i := 14) (oi := ?_) (v := ?_) ?_ ?_ ?_ ?_ ?_ ?_ ?_ ?_
      rotate_left 2
      · simp only [List.getElem?_toArray, List.getElem?_cons_succ, List.getElem?_cons_zero]; rfl
      · kernel_rfl
      · kernel_rfl
      · kernel_rfl
      · exact fun _ _ _ h => h
      · refine Or.inl ⟨by rfl, ?_⟩
        intro w' hSw
        (try dsimp only at hSw)
        go_simp
        all_goals (with_reducible rfl)
      · assumption
      try simp only [Act.put, List.setIfInBounds_toArray, List.set_cons_zero, List.set_cons_succ]
      refine wpAnyH_done (by kernel_rfl) ?_ _
      clear hHeld
      have kl := ST.out _ (H0.out.keep N9.out)
      go_wp2_with (first
        | (go_at_call 127; ((with_reducible refine (CC.out _ (H0.out.keep N9.out)).mono ?_); rintro e w10 ⟨rfl, be⟩; have N10 := Lib.hid (G.below_on N9.out be); have kl2 := ST.out _ (H0.out.keep N10.out); clear be))
        | (go_at_call 128; ((with_reducible refine (CL.out _ (H0.out.keep N10.out)).mono ?_); rintro e w11 ⟨rfl, be⟩; have N11 := Lib.hid (G.below_on N10.out be); clear be)))
      go_ret2
      first
        | exact ⟨rfl, N11.out⟩
        | exact ⟨rfl, N10.out⟩
end
end Go.Proofs.YtbgcpljekcagiaaGreat
/- The contracts of layer 12 (limiter): evict. -/
namespace Go.Proofs.YtbgcpljekcagiaaGreat
set_option linter.unusedSimpArgs false
set_option linter.unusedVariables false
set_option maxRecDepth 100000
open Go.ChangeShapes Go.WideShapes Go.ChangeAt Go.RowKit
open Ar (inR)
section
variable {N : LmN} {s : LmS}
/-- the cell that Remove answers. -/
def remC (C : List Cel) : Option Nat → Cel
  | some i => C.getD i (0, 0, 0, 0)
  | none => (0, 0, 0, 0)
theorem remV_eq (C : List Cel) (o : Option Nat) : remV C o = .tuple #[celV (remC C o), .bool o.isSome] := by cases o <;> rfl
/-- a key loses its cell; what that may have allowed counts in the ring. -/
def LmS.evict (s : LmS) (N : LmN) (now : Int) (key : ByteArray) : LmS :=
  { s with σ := (s.σ.del N.Q.N.n key).1, r := s.r.add N.R key (boundP (remC s.C (s.σ.del N.Q.N.n key).2).1 (remC s.C (s.σ.del N.Q.N.n key).2).2.1 (remC s.C (s.σ.del N.Q.N.n key).2).2.2.2 N.U N.W N.L now) }
theorem LmG.rem {now : Int} (hg : LmG N s now) (o : Option Nat) : celG (remC s.C o) N.U N.W N.B N.L now := by
  have hz : celG (0, 0, 0, 0) N.U N.W N.B N.L now := ⟨by decide, by decide, by decide, by decide, hg.U, hg.W, hg.B, hg.L, hg.n⟩
  cases o with
  | none => exact hz
  | some i =>
    show celG (s.C.getD i (0, 0, 0, 0)) _ _ _ _ _
    rw [List.getD_eq_getElem?_getD]
    cases hc : s.C[i]? with
    | none => exact hz
    | some c => exact (hg.c c (List.mem_of_getElem? hc)).1
theorem bound_in {F S C D U W B L t : Int} (h : Rng F S C D U W B L t) : 0 ≤ boundP F S D U W L t ∧ boundP F S D U W L t ≤ 1048576 := by
  have hD := h.D
  have hL := h.L
  unfold boundP
  split <;> omega
set_option maxHeartbeats 4000000 in
theorem lmevict_any (now : Int) (key : ByteArray) (hs : key.size ≤ maxLen) (w : World) (h : LmAt w N s) (hg : LmG N s now) :
    Calls Tryz.prog 99 #[.pointer (some ⟨N.l, 0, none⟩), .int .i64 now, .string key] w fun e w' => e = .returned (.tuple #[]) ∧ LmAt w' N (s.evict N now key) ∧ Fr N.parts w w' := by
  have CR := Lib.hid (plremove_any key hs w h.hp)
  have hG := hg.rem (s.σ.del N.Q.N.n key).2
  have ee : s.evict N now key = { s with σ := (s.σ.del N.Q.N.n key).1, r := s.r.add N.R key (boundP (remC s.C (s.σ.del N.Q.N.n key).2).1 (remC s.C (s.σ.del N.Q.N.n key).2).2.1 (remC s.C (s.σ.del N.Q.N.n key).2).2.2.2 N.U N.W N.L now) } := rfl
  rw [ee]
  clear ee
  obtain ⟨⟨σ', o⟩, ho⟩ : ∃ x, x = s.σ.del N.Q.N.n key := ⟨_, rfl⟩
  rw [← ho] at CR hG ⊢
  clear ho
  dsimp only at hG
  have CR := Lib.hid (show Calls Tryz.prog 129 #[.pointer (some ⟨N.Q.p, 0, none⟩), .string key] w (fun e w' => e = .returned (.tuple #[celV (remC s.C o), .bool o.isSome]) ∧ PlAt w' N.Q σ' s.C ∧ Fr N.Q.F w w') from by rw [← remV_eq]; exact CR.out)
  obtain ⟨c, hc⟩ : ∃ c, c = remC s.C o := ⟨_, rfl⟩
  dsimp only
  rw [← hc] at CR hG ⊢
  have hbd := bound_in hG
  have CB := Lib.hid (fun wx => show Calls Tryz.prog 130 #[celV c, pv N.U N.W N.B N.L, .int .i64 now] wx (fun e w' => e = .returned (.int .i64 (boundP c.1 c.2.1 c.2.2.2 N.U N.W N.L now)) ∧ Below wx.heap.size wx w') from bound_rng hG wx)
  obtain ⟨bd, hbe⟩ : ∃ bd, bd = boundP c.1 c.2.1 c.2.2.2 N.U N.W N.L now := ⟨_, rfl⟩
  rw [← hbe] at CB hbd ⊢
  have CA := Lib.hid (fun wx (r : RgS) (hx : RgAt wx N.R r) => radd_any key hs bd (by omega) wx hx)
  have H0 := Lib.hid h
  have kl := h.hl.rd
  clear hc hG hbe h hbd
  go_enter Tryz.func99, Tryz.ntmps99
  go_upto_region 1 with (first
    | (go_at_call 129; ((with_reducible refine CR.out.mono ?_); rintro e w2 ⟨rfl, p2, f2⟩; have H2 := Lib.hid (H0.out.pool p2 f2 (fun k hk => Or.inl hk)); have F2 := Lib.hid (show Fr N.parts w w2 from f2.mono (fun k hk => Or.inl (Or.inl hk))); clear p2 f2)))
  obtain ⟨w3, e3, k3, b3, s3⟩ := box_new w2 #[.int .i64 c.1, .int .i64 c.2.1, .int .i64 c.2.2.1, .int .i64 c.2.2.2] 64
  rw [e3]
  have HNB := Lib.hid (show ∀ k, N.all k → k ≠ w2.heap.size from fun k hk e => by have := H2.out.lt k hk; omega)
  have H3 := Lib.hid (H2.out.keep b3)
  have F3 := Lib.hid (F2.out.trans (Fr.of_below b3))
  generalize w2.heap.size = cb at k3 HNB ⊢
  have K3 := Lib.hid k3
  clear e3 b3 s3 k3 kl
  have ST := Lib.hid (fun (Wo : World) (r : RgS) (hW : LmAt Wo N { s with σ := σ', r := r }) (hK : Blk Wo cb 64 #[.int .i64 c.1, .int .i64 c.2.1, .int .i64 c.2.2.1, .int .i64 c.2.2.2]) => And.intro hW.hl.rd hK.rd)
  have BN := Lib.hid (show Below w3.heap.size w3 w3.drew from below_draws (Below.refl _ _) 1)
  have st := ST.out _ _ (H3.out.keep BN.out) (K3.out.keep BN.out)
  refine wp_region_held_drew (S := fun Wo => (∀ j, Wo.cell? ⟨N.l, j, none⟩ = (limC N s.al s.de s.ba)[j]?) ∧ (∀ j, Wo.cell? ⟨cb, j, none⟩ = (#[.int .i64 c.1, .int .i64 c.2.1, .int .i64 c.2.2.1, .int .i64 c.2.2.2] : Array Value)[j]?)) (by kernel_rfl) st (fun hHeld => ?_)
  clear st
  refine wpAnyH_take (i := 0) (oi := ?_) (v := ?_) ?_ ?_ ?_ ?_ ?_ ?_ ?_ ?_
  rotate_left 2
  · simp only [List.getElem?_toArray, List.getElem?_cons_succ, List.getElem?_cons_zero]; rfl
  · kernel_rfl
  · kernel_rfl
  · kernel_rfl
  · exact fun _ _ _ h => h
  · refine Or.inl ⟨by rfl, ?_⟩
    intro w' hSw
    (try dsimp only at hSw)
    go_simp
    all_goals (with_reducible rfl)
  · assumption
  try simp only [Act.put, List.setIfInBounds_toArray, List.set_cons_zero, List.set_cons_succ]
  refine wpAnyH_take (i := 1) (oi := ?_) (v := ?_) ?_ ?_ ?_ ?_ ?_ ?_ ?_ ?_
  rotate_left 2
  · simp only [List.getElem?_toArray, List.getElem?_cons_succ, List.getElem?_cons_zero]; rfl
  · kernel_rfl
  · kernel_rfl
  · kernel_rfl
  · exact fun _ _ _ h => h
  · refine Or.inl ⟨by rfl, ?_⟩
    intro w' hSw
    (try dsimp only at hSw)
    go_simp
    all_goals (with_reducible rfl)
  · assumption
  try simp only [Act.put, List.setIfInBounds_toArray, List.set_cons_zero, List.set_cons_succ]
  refine wpAnyH_take (i := 2) (oi := ?_) (v := ?_) ?_ ?_ ?_ ?_ ?_ ?_ ?_ ?_
  rotate_left 2
  · simp only [List.getElem?_toArray, List.getElem?_cons_succ, List.getElem?_cons_zero]; rfl
  · kernel_rfl
  · kernel_rfl
  · kernel_rfl
  · exact fun _ _ _ h => h
  · refine Or.inl ⟨by rfl, ?_⟩
    intro w' hSw
    (try dsimp only at hSw)
    go_simp
    all_goals (with_reducible rfl)
  · assumption
  try simp only [Act.put, List.setIfInBounds_toArray, List.set_cons_zero, List.set_cons_succ]
  refine wpAnyH_take (i := 3) (oi := ?_) (v := ?_) ?_ ?_ ?_ ?_ ?_ ?_ ?_ ?_
  rotate_left 2
  · simp only [List.getElem?_toArray, List.getElem?_cons_succ, List.getElem?_cons_zero]; rfl
  · kernel_rfl
  · kernel_rfl
  · kernel_rfl
  · exact fun _ _ _ h => h
  · refine Or.inl ⟨by rfl, ?_⟩
    intro w' hSw
    (try dsimp only at hSw)
    go_simp
    all_goals (with_reducible rfl)
  · assumption
  try simp only [Act.put, List.setIfInBounds_toArray, List.set_cons_zero, List.set_cons_succ]
  refine wpAnyH_take (i := 4) (oi := ?_) (v := ?_) ?_ ?_ ?_ ?_ ?_ ?_ ?_ ?_
  rotate_left 2
  · simp only [List.getElem?_toArray, List.getElem?_cons_succ, List.getElem?_cons_zero]; rfl
  · kernel_rfl
  · kernel_rfl
  · kernel_rfl
  · exact fun _ _ _ h => h
  · refine Or.inl ⟨by rfl, ?_⟩
    intro w' hSw
    (try dsimp only at hSw)
    go_simp
    all_goals (with_reducible rfl)
  · assumption
  try simp only [Act.put, List.setIfInBounds_toArray, List.set_cons_zero, List.set_cons_succ]
  refine wpAnyH_take (i := 5) (oi := ?_) (v := ?_) ?_ ?_ ?_ ?_ ?_ ?_ ?_ ?_
  rotate_left 2
  · simp only [List.getElem?_toArray, List.getElem?_cons_succ, List.getElem?_cons_zero]; rfl
  · kernel_rfl
  · kernel_rfl
  · kernel_rfl
  · exact fun _ _ _ h => h
  · refine Or.inl ⟨by rfl, ?_⟩
    intro w' hSw
    (try dsimp only at hSw)
    go_simp
    all_goals (with_reducible rfl)
  · assumption
  try simp only [Act.put, List.setIfInBounds_toArray, List.set_cons_zero, List.set_cons_succ]
  refine wpAnyH_take (i := 6) (oi := ?_) (v := ?_) ?_ ?_ ?_ ?_ ?_ ?_ ?_ ?_
  rotate_left 2
  · simp only [List.getElem?_toArray, List.getElem?_cons_succ, List.getElem?_cons_zero]; rfl
  · kernel_rfl
  · kernel_rfl
  · kernel_rfl
  · exact fun _ _ _ h => h
  · refine Or.inl ⟨by rfl, ?_⟩
    intro w' hSw
    (try dsimp only at hSw)
    go_simp
    all_goals (with_reducible rfl)
  · assumption
  try simp only [Act.put, List.setIfInBounds_toArray, List.set_cons_zero, List.set_cons_succ]
  refine wpAnyH_take (i := 7) (oi := ?_) (v := ?_) ?_ ?_ ?_ ?_ ?_ ?_ ?_ ?_
  rotate_left 2
  · simp only [List.getElem?_toArray, List.getElem?_cons_succ, List.getElem?_cons_zero]; rfl
  · kernel_rfl
  · kernel_rfl
  · kernel_rfl
  · exact fun _ _ _ h => h
  · refine Or.inl ⟨by rfl, ?_⟩
    intro w' hSw
    (try dsimp only at hSw)
    go_simp
    all_goals (with_reducible rfl)
  · assumption
  try simp only [Act.put, List.setIfInBounds_toArray, List.set_cons_zero, List.set_cons_succ]
  refine wpAnyH_take (i := 8) (oi := ?_) (v := ?_) ?_ ?_ ?_ ?_ ?_ ?_ ?_ ?_
  rotate_left 2
  · simp only [List.getElem?_toArray, List.getElem?_cons_succ, List.getElem?_cons_zero]; rfl
  · kernel_rfl
  · kernel_rfl
  · kernel_rfl
  · exact fun _ _ _ h => h
  · refine Or.inl ⟨by rfl, ?_⟩
    intro w' hSw
    (try dsimp only at hSw)
    go_simp
    all_goals (with_reducible rfl)
  · assumption
  try simp only [Act.put, List.setIfInBounds_toArray, List.set_cons_zero, List.set_cons_succ]
  refine wpAnyH_take (i := 9) (oi := ?_) (v := ?_) ?_ ?_ ?_ ?_ ?_ ?_ ?_ ?_
  rotate_left 2
  · simp only [List.getElem?_toArray, List.getElem?_cons_succ, List.getElem?_cons_zero]; rfl
  · kernel_rfl
  · kernel_rfl
  · kernel_rfl
  · exact fun _ _ _ h => h
  · refine Or.inl ⟨by rfl, ?_⟩
    intro w' hSw
    (try dsimp only at hSw)
    go_simp
    all_goals (with_reducible rfl)
  · assumption
  try simp only [Act.put, List.setIfInBounds_toArray, List.set_cons_zero, List.set_cons_succ]
  refine wpAnyH_take (i := 10) (oi := ?_) (v := ?_) ?_ ?_ ?_ ?_ ?_ ?_ ?_ ?_
  rotate_left 2
  · simp only [List.getElem?_toArray, List.getElem?_cons_succ, List.getElem?_cons_zero]; rfl
  · kernel_rfl
  · kernel_rfl
  · kernel_rfl
  · exact fun _ _ _ h => h
  · refine Or.inl ⟨by rfl, ?_⟩
    intro w' hSw
    (try dsimp only at hSw)
    go_simp
    all_goals (with_reducible rfl)
  · assumption
  try simp only [Act.put, List.setIfInBounds_toArray, List.set_cons_zero, List.set_cons_succ]
  refine wpAnyH_ready (rs := [11]) (by kernel_rfl) (by simp) ?_
  refine AllReadyH.cons (o := ?_) ?_ ?_ ?_
  rotate_left 1
  · simp only [List.getElem?_toArray, List.getElem?_cons_succ, List.getElem?_cons_zero]; rfl
  rotate_left 1
  · exact AllReadyH.nil
  intro K hK
  go_simp
  ((with_reducible refine (CB.out _).mono ?_); rintro e w11 ⟨rfl, be⟩; have N11 := Lib.hid (G.below_on BN.out be); clear be)
  refine hK.out _ _ (ST.out _ _ (H3.out.keep N11.out) (K3.out.keep N11.out)) (fun hHeld => ?_)
  clear hK K
  try simp only [Act.put, List.setIfInBounds_toArray, List.set_cons_zero, List.set_cons_succ]
  refine wpAnyH_ready (rs := [12]) (by kernel_rfl) (by simp) ?_
  refine AllReadyH.cons (o := ?_) ?_ ?_ ?_
  rotate_left 1
  · simp only [List.getElem?_toArray, List.getElem?_cons_succ, List.getElem?_cons_zero]; rfl
  rotate_left 1
  · exact AllReadyH.nil
  intro K hK
  go_simp
  ((with_reducible refine (CA.out _ _ (H3.out.keep N11.out).hr).mono ?_); rintro e w12 ⟨rfl, r12, f12⟩; have H12 := Lib.hid ((H3.out.keep N11.out).ring r12 f12 (fun k hk => Or.inl hk)); have K12 := Lib.hid ((K3.out.keep N11.out).fr f12 (fun hk => HNB.out cb (Or.inl (Or.inr (Or.inl (Or.inl hk)))) rfl)); have F12 := Lib.hid ((F3.out.trans (Fr.of_below N11.out)).trans (f12.mono (fun k hk => show N.parts k from Or.inr (Or.inl (Or.inl hk))))); clear r12 f12)
  refine hK.out _ _ (ST.out _ _ H12.out K12.out) (fun hHeld => ?_)
  clear hK K
  try simp only [Act.put, List.setIfInBounds_toArray, List.set_cons_zero, List.set_cons_succ]
  refine wpAnyH_done (by kernel_rfl) ?_ _
  clear hHeld
  go_wp2
  refine bodyPost_end (results_none rfl _ _ _) rfl ?_
  exact ⟨rfl, H12.out, F12.out⟩
end
end Go.Proofs.YtbgcpljekcagiaaGreat
/- The contracts of layer 12 (limiter): admit. -/
namespace Go.Proofs.YtbgcpljekcagiaaGreat
set_option linter.unusedSimpArgs false
set_option linter.unusedVariables false
set_option maxRecDepth 100000
open Go.ChangeShapes Go.WideShapes Go.ChangeAt Go.RowKit
open Ar (inR)
theorem Lm.own_fr {w w' : World} {F : Nat → Prop} {base : Nat} {e : TypeId} {size n : Nat} {v : Value} {xs : List Value} (h : w.ownsRow base e size v n xs) (hf : Fr F w w') (hF : ∀ k, F k → k < base) : w'.ownsRow base e size v n xs := by
  refine ⟨h.1, ?_⟩
  rcases h.2 with h0 | ⟨g, cap, cur, hv, hbg, hg, h1⟩
  · exact Or.inl h0
  · exact Or.inr ⟨g, cap, cur, hv, hbg, by rw [hf.block g (lt_of_block hg) (fun hk => by have := hF g hk; omega)]; exact hg, h1⟩
theorem Lm.fr_new {F : Nat → Prop} {G : Nat → Prop} {w w1 w2 : World} (h : Fr F w w1) (h2 : Fr G w1 w2) (hG : ∀ k, G k → w.heap.size ≤ k) : Fr F w w2 :=
  ⟨h2.os.trans h.os, h2.tape.trans h.tape, h2.output.trans h.output, Nat.le_trans h.size h2.size, fun k hk hF => (h2.block k (Nat.lt_of_lt_of_le hk h.size) (fun g => by have := hG k g; omega)).trans (h.block k hk hF)⟩
theorem Lm.own_base {w : World} {base : Nat} {e : TypeId} {size n : Nat} {v : Value} {xs : List Value} (h : w.ownsRow base e size v n xs) : ∀ g, v.ownBlock = some g → base ≤ g := by
  intro g hg
  rcases h.2 with ⟨rfl, _⟩ | ⟨g', cap, cur, rfl, hb, _⟩
  · cases hg
  · have : g' = g := by simpa [Value.ownBlock] using hg
    omega
theorem infoEv : (Tryz.prog.info? 70).map (fun i => (i.zero, i.size, i.bytes)) = some (some (.agg #[.int .i64 0, .string ⟨#[]⟩, .bool false, .int .i64 0]), 4, 40) := by kernel_rfl
/-- the cells of events. -/
def evL (now : Int) : List (ByteArray × Bool) → List Value
  | [] => []
  | x :: r => .int .i64 0 :: .string x.1 :: .bool x.2 :: .int .i64 now :: evL now r
section
variable {N : LmN} {s : LmS}
theorem light_key (f : ByteArray → Int) : ∀ (l : List (ByteArray × Cel)) (a : ByteArray × Int × Bool), (l.foldl (fun a x => lightS f a x.1) a).1 = a.1 ∨ ∃ x ∈ l, x.1 = (l.foldl (fun a x => lightS f a x.1) a).1
  | [], a => Or.inl rfl
  | x :: r, a => by
    rw [List.foldl_cons]
    rcases light_key f r (lightS f a x.1) with h | ⟨y, hy, h⟩
    · rw [h]
      unfold lightS
      split
      · exact Or.inr ⟨x, List.mem_cons_self, rfl⟩
      · exact Or.inl rfl
    · exact Or.inr ⟨y, List.mem_cons_of_mem _ hy, h⟩
theorem giver_size {now : Int} {key o : ByteArray} (hk : ∀ x ∈ s.res N, x.1.size ≤ maxLen) (h : s.giver N now key = some o) : o.size ≤ maxLen := by
  unfold LmS.giver at h
  cases hp : plIdle (s.res N) N.W now with
  | some x =>
    rw [hp] at h
    injection h with h
    subst h
    exact hk x (List.mem_of_find?_eq_some hp)
  | none =>
    rw [hp] at h
    dsimp only at h
    split at h
    · cases h
    · split at h
      · cases h
      · injection h with h
        subst h
        rcases light_key (mostM N.S.N.n s.M) (s.res N) (⟨#[]⟩, 0, false) with g | ⟨x, hx, g⟩
        · show (lightL _ _).1.size ≤ _
          unfold lightL
          rw [g]
          exact Nat.zero_le _
        · show (lightL _ _).1.size ≤ _
          unfold lightL
          rw [← g]
          exact hk x hx
/-- a key gets a cell. -/
def LmS.put (s : LmS) (N : LmN) (now : Int) (key : ByteArray) : LmS :=
  { s with σ := (s.σ.put N.Q.N.n key).1, C := plSet s.C (now, now, estZ N.R s.r key, 0) (s.σ.put N.Q.N.n key).2 }
def LmS.full (s : LmS) (N : LmN) : Bool := decide (((N.Q.N.n - s.σ.fl.length : Nat) : Int) = (N.Q.N.n : Int))
/-- a key gets a cell, if it has none and may. -/
def LmS.adm (s : LmS) (N : LmN) (now : Int) (key : ByteArray) : LmS × List (ByteArray × Bool) :=
  if (posN N.Q.N.n s.σ.K key).isSome = true ∨ 64 < key.size then (s, [])
  else if s.full N = true then
    match s.giver N now key with
    | some o => ((s.evict N now o).put N now key, [(o, false), (key, true)])
    | none => (s, [])
  else (s.put N now key, [(key, true)])
set_option maxHeartbeats 4000000 in
theorem lmadmit_any (now : Int) (key : ByteArray) (hs : key.size ≤ maxLen) (w : World) (h : LmAt w N s) (hg : LmG N s now) (hk : ∀ x ∈ s.res N, x.1.size ≤ maxLen) :
    Calls Tryz.prog 57 #[.pointer (some ⟨N.l, 0, none⟩), .int .i64 now, .string key] w fun e w' => ∃ v, e = .returned v ∧ w'.ownsRow w.heap.size 70 4 v (s.adm N now key).2.length (evL now (s.adm N now key).2) ∧ LmAt w' N (s.adm N now key).1 ∧ Fr N.parts w w' := by
  have CF := Lib.hid (plfind_any key hs w h.hp)
  have CU := Lib.hid (fun wx (hx : LmAt wx N s) => show Calls Tryz.prog 81 #[.pointer (some ⟨N.Q.p, 0, none⟩)] wx (fun e w' => e = .returned (.bool (s.full N)) ∧ Below wx.heap.size wx w') from plfull_any wx hx.hp)
  have CG := Lib.hid (fun wx (hx : LmAt wx N s) => lmgiver_any now key hs wx hx hg hk)
  have ea : s.adm N now key = if (posN N.Q.N.n s.σ.K key).isSome = true ∨ 64 < key.size then (s, [])
      else if s.full N = true then
        match s.giver N now key with
        | some o => ((s.evict N now o).put N now key, [(o, false), (key, true)])
        | none => (s, [])
      else (s.put N now key, [(key, true)]) := rfl
  rw [ea]
  clear ea
  have H0 := Lib.hid h
  have HG := Lib.hid hg
  have HKK := Lib.hid hk
  have HS := Lib.hid hs
  have kl := h.hl.rd
  clear h hg hk
  by_cases hA : (posN N.Q.N.n s.σ.K key).isSome = true
  · rw [if_pos (Or.inl hA)]
    obtain ⟨i, hi⟩ := Option.isSome_iff_exists.1 hA
    have CF := Lib.hid (show Calls Tryz.prog 68 #[.pointer (some ⟨N.Q.p, 0, none⟩), .string key] w (fun e w' => e = .returned (.pointer (some ⟨N.Q.cb, i * 4, none⟩)) ∧ Below w.heap.size w w') from by have := CF.out; rw [hi] at this; exact this)
    clear hA hi CU CG hs
    go_enter Tryz.func57, Tryz.ntmps57
    go_wp2_with (go_at_call 68; ((with_reducible refine CF.out.mono ?_); rintro e w2 ⟨rfl, b2⟩; have B2 := Lib.hid b2; clear b2))
    go_ret
    exact ⟨_, rfl, World.ownsRow_nil _ _ _ _, H0.out.keep B2.out, (Fr.of_below B2.out).mono (fun k (hk : False) => hk.elim)⟩
  have hn : posN N.Q.N.n s.σ.K key = none := by
    cases hp : posN N.Q.N.n s.σ.K key with
    | none => rfl
    | some i => rw [hp] at hA; exact absurd rfl hA
  have CF := Lib.hid (show Calls Tryz.prog 68 #[.pointer (some ⟨N.Q.p, 0, none⟩), .string key] w (fun e w' => e = .returned (.pointer none) ∧ Below w.heap.size w w') from by have := CF.out; rw [hn] at this; exact this)
  clear hn
  by_cases hB : 64 < key.size
  · rw [if_pos (Or.inr hB)]
    have hB2 : (64 : Int) < (key.size : Int) := by omega
    clear hA CU CG hs
    go_enter Tryz.func57, Tryz.ntmps57
    go_wp2_with (go_at_call 68; ((with_reducible refine CF.out.mono ?_); rintro e w2 ⟨rfl, b2⟩; have B2 := Lib.hid b2; clear b2))
    go_ret
    exact ⟨_, rfl, World.ownsRow_nil _ _ _ _, H0.out.keep B2.out, (Fr.of_below B2.out).mono (fun k (hk : False) => hk.elim)⟩
  rw [if_neg (by intro h; rcases h with h | h; exact hA h; exact hB h)]
  have hB2 : ¬ (64 : Int) < (key.size : Int) := by omega
  have hB3 : (key.size : Int) ≤ 64 := by omega
  clear hA hB hs
  have t0 : s.full N = true ∨ s.full N = false := by cases s.full N <;> simp
  obtain ⟨fu, hfu⟩ : ∃ fu, fu = s.full N := ⟨_, rfl⟩
  rw [← hfu] at CU t0 ⊢
  clear hfu
  have hgs : ∀ o, s.giver N now key = some o → o.size ≤ maxLen := fun o ho => giver_size HKK.out ho
  obtain ⟨gi, hgi⟩ : ∃ gi, gi = s.giver N now key := ⟨_, rfl⟩
  rw [← hgi] at CG hgs ⊢
  clear hgi
  rcases t0 with rfl | rfl
  · cases gi with
    | none =>
      simp only [if_true]
      clear hgs
      go_enter Tryz.func57, Tryz.ntmps57
      go_wp2_with (first
        | (go_at_call 68; ((with_reducible refine CF.out.mono ?_); rintro e w2 ⟨rfl, b2⟩; have B2 := Lib.hid b2; have kl2 := (H0.out.keep b2).hl.rd; clear b2))
        | (go_at_call 81; ((with_reducible refine (CU.out _ (H0.out.keep B2.out)).mono ?_); rintro e w3 ⟨rfl, b3⟩; have B3 := Lib.hid (below_in B2.out b3); have kl3 := (H0.out.keep B3.out).hl.rd; clear b3))
        | (go_at_call 98; ((with_reducible refine (CG.out _ (H0.out.keep B3.out)).mono ?_); rintro e w4 ⟨rfl, b4⟩; have B4 := Lib.hid (below_in B3.out b4); simp only [giveV]; clear b4)))
      go_ret
      exact ⟨_, rfl, World.ownsRow_nil _ _ _ _, H0.out.keep B4.out, (Fr.of_below B4.out).mono (fun k (hk : False) => hk.elim)⟩
    | some o =>
      simp only [if_true]
      have hos := hgs o rfl
      have CE := Lib.hid (fun wx (hx : LmAt wx N s) => lmevict_any now o hos wx hx HG.out)
      clear hgs hos
      go_enter Tryz.func57, Tryz.ntmps57
      go_upto_region 9 with (first
        | (go_at_call 68; ((with_reducible refine CF.out.mono ?_); rintro e w2 ⟨rfl, b2⟩; have B2 := Lib.hid b2; have kl2 := (H0.out.keep b2).hl.rd; clear b2))
        | (go_at_call 81; ((with_reducible refine (CU.out _ (H0.out.keep B2.out)).mono ?_); rintro e w3 ⟨rfl, b3⟩; have B3 := Lib.hid (below_in B2.out b3); have kl3 := (H0.out.keep B3.out).hl.rd; clear b3))
        | (go_at_call 98; ((with_reducible refine (CG.out _ (H0.out.keep B3.out)).mono ?_); rintro e w4 ⟨rfl, b4⟩; have B4 := Lib.hid (below_in B3.out b4); simp only [giveV]; clear b4))
        | (go_at_call 99; ((with_reducible refine (CE.out _ (H0.out.keep B4.out)).mono ?_); rintro e w5 ⟨rfl, h5, f5⟩; have H5 := Lib.hid h5; have F5 := Lib.hid (((Fr.of_below B4.out).mono (fun k (hk : False) => show N.parts k from hk.elim)).trans f5); have S5 := Lib.hid (show w.heap.size ≤ w5.heap.size from Nat.le_trans B4.out.size f5.size); clear h5 f5)))
      clear kl kl2 kl3
      obtain ⟨i0, hi0, hz0, hz1, hz2⟩ := info_parts infoEv
      have HI := Lib.hid (And.intro hi0 (And.intro hz0 (And.intro hz1 hz2)))
      clear hi0 hz0 hz1 hz2
      go_upto_region 10 with (at_builtin; refine G.wpList_push (w0 := w5) (by rfl) _ _ (by rfl) (by rfl) (by rfl) (by rfl) HI.out.1 HI.out.2.1 HI.out.2.2.1 HI.out.2.2.2 (by rfl) (by omega) (World.ownsRow_nil w5 w.heap.size 70 4) S5.out [.int .i64 0, .string o, .bool false, .int .i64 now] (by rfl) (by simp [Value.oneCell']) (by omega) (by unfold maxLen; omega) ?_; intro g6 cl6 w7 hown6 hf6 hat6; have O7 := Lib.hid hown6; have H7 := Lib.hid (H5.out.fr hf6 (fun k hk e => by cases e)); have F7 := Lib.hid (F5.out.trans (hf6.mono (fun k e => by cases e))); have S7 := Lib.hid (Nat.le_trans S5.out hf6.size); clear hown6 hf6 hat6)
      obtain ⟨i1, hi0, hz0, hz1, hz2⟩ := info_parts infoEv
      have HI2 := Lib.hid (And.intro hi0 (And.intro hz0 (And.intro hz1 hz2)))
      clear hi0 hz0 hz1 hz2
      have CS := Lib.hid (fun wx (hx : LmAt wx N (s.evict N now o)) => restimate_any key HS.out wx hx.hr)
      have CN := Lib.hid (fun wx => new_any now (estZ N.R ((s.evict N now o)).r key) wx)
      have CP := Lib.hid (fun wx (hx : LmAt wx N (s.evict N now o)) => plput_any key HS.out (now, now, estZ N.R ((s.evict N now o)).r key, 0) wx hx.hp)
      have EP := Lib.hid (show ((s.evict N now o)).put N now key = { (s.evict N now o) with σ := (((s.evict N now o)).σ.put N.Q.N.n key).1, C := plSet ((s.evict N now o)).C (now, now, estZ N.R ((s.evict N now o)).r key, 0) (((s.evict N now o)).σ.put N.Q.N.n key).2 } from rfl)
      have NP := Lib.hid (fun wx (hx : Calls Tryz.prog 100 #[.pointer (some ⟨N.Q.p, 0, none⟩), .string key, celV (now, now, estZ N.R ((s.evict N now o)).r key, 0)] wx (fun e w' => e = .returned (plP N.Q (((s.evict N now o)).σ.put N.Q.N.n key).2) ∧ PlAt w' N.Q (((s.evict N now o)).σ.put N.Q.N.n key).1 (plSet ((s.evict N now o)).C (now, now, estZ N.R ((s.evict N now o)).r key, 0) (((s.evict N now o)).σ.put N.Q.N.n key).2) ∧ Fr N.Q.F wx w')) => hx)
      obtain ⟨est, hest⟩ : ∃ x, x = estZ N.R ((s.evict N now o)).r key := ⟨_, rfl⟩
      rw [← hest] at CS CN CP EP NP
      clear hest
      have ST := Lib.hid (fun (Wo : World) (hW : LmAt Wo N (s.evict N now o)) => show ∀ (j : Nat), Wo.cell? ⟨N.l, j, none⟩ = (limC N s.al s.de s.ba)[j]? from hW.hl.rd)
      have BN := Lib.hid (show Below w7.heap.size w7 w7.drew from below_draws (Below.refl _ _) 1)
      have st := ST.out _ (H7.out.keep BN.out)
      refine wp_region_held_drew (S := fun Wo => ∀ j, Wo.cell? ⟨N.l, j, none⟩ = (limC N s.al s.de s.ba)[j]?) (by kernel_rfl) st (fun hHeld => ?_)
      clear st
      refine wpAnyH_take (i := 0) (oi := ?_) (v := ?_) ?_ ?_ ?_ ?_ ?_ ?_ ?_ ?_
      rotate_left 2
      · simp only [List.getElem?_toArray, List.getElem?_cons_succ, List.getElem?_cons_zero]; rfl
      · kernel_rfl
      · kernel_rfl
      · kernel_rfl
      · exact fun _ _ _ h => h
      · refine Or.inl ⟨by rfl, ?_⟩
        intro w' hSw
        (try dsimp only at hSw)
        go_simp
        all_goals (with_reducible rfl)
      · assumption
      try simp only [Act.put, List.setIfInBounds_toArray, List.set_cons_zero, List.set_cons_succ]
      refine wpAnyH_take (i := 1) (oi := ?_) (v := ?_) ?_ ?_ ?_ ?_ ?_ ?_ ?_ ?_
      rotate_left 2
      · simp only [List.getElem?_toArray, List.getElem?_cons_succ, List.getElem?_cons_zero]; rfl
      · kernel_rfl
      · kernel_rfl
      · kernel_rfl
      · exact fun _ _ _ h => h
      · refine Or.inl ⟨by rfl, ?_⟩
        intro w' hSw
        (try dsimp only at hSw)
        go_simp
        all_goals (with_reducible rfl)
      · assumption
      try simp only [Act.put, List.setIfInBounds_toArray, List.set_cons_zero, List.set_cons_succ]
      refine wpAnyH_take (i := 2) (oi := ?_) (v := ?_) ?_ ?_ ?_ ?_ ?_ ?_ ?_ ?_
      rotate_left 2
      · simp only [List.getElem?_toArray, List.getElem?_cons_succ, List.getElem?_cons_zero]; rfl
      · kernel_rfl
      · kernel_rfl
      · kernel_rfl
      · exact fun _ _ _ h => h
      · refine Or.inl ⟨by rfl, ?_⟩
        intro w' hSw
        (try dsimp only at hSw)
        go_simp
        all_goals (with_reducible rfl)
      · assumption
      try simp only [Act.put, List.setIfInBounds_toArray, List.set_cons_zero, List.set_cons_succ]
      refine wpAnyH_take (i := 3) (oi := ?_) (v := ?_) ?_ ?_ ?_ ?_ ?_ ?_ ?_ ?_
      rotate_left 2
      · simp only [List.getElem?_toArray, List.getElem?_cons_succ, List.getElem?_cons_zero]; rfl
      · kernel_rfl
      · kernel_rfl
      · kernel_rfl
      · exact fun _ _ _ h => h
      · refine Or.inl ⟨by rfl, ?_⟩
        intro w' hSw
        (try dsimp only at hSw)
        go_simp
        all_goals (with_reducible rfl)
      · assumption
      try simp only [Act.put, List.setIfInBounds_toArray, List.set_cons_zero, List.set_cons_succ]
      refine wpAnyH_take (i := 4) (oi := ?_) (v := ?_) ?_ ?_ ?_ ?_ ?_ ?_ ?_ ?_
      rotate_left 2
      · simp only [List.getElem?_toArray, List.getElem?_cons_succ, List.getElem?_cons_zero]; rfl
      · kernel_rfl
      · kernel_rfl
      · kernel_rfl
      · exact fun _ _ _ h => h
      · refine Or.inl ⟨by rfl, ?_⟩
        intro w' hSw
        (try dsimp only at hSw)
        go_simp
        all_goals (with_reducible rfl)
      · assumption
      try simp only [Act.put, List.setIfInBounds_toArray, List.set_cons_zero, List.set_cons_succ]
      refine wpAnyH_take (i := 5) (oi := ?_) (v := ?_) ?_ ?_ ?_ ?_ ?_ ?_ ?_ ?_
      rotate_left 2
      · simp only [List.getElem?_toArray, List.getElem?_cons_succ, List.getElem?_cons_zero]; rfl
      · kernel_rfl
      · kernel_rfl
      · kernel_rfl
      · exact fun _ _ _ h => h
      · refine Or.inl ⟨by rfl, ?_⟩
        intro w' hSw
        (try dsimp only at hSw)
        go_simp
        all_goals (with_reducible rfl)
      · assumption
      try simp only [Act.put, List.setIfInBounds_toArray, List.set_cons_zero, List.set_cons_succ]
      refine wpAnyH_take (i := 6) (oi := ?_) (v := ?_) ?_ ?_ ?_ ?_ ?_ ?_ ?_ ?_
      rotate_left 2
      · simp only [List.getElem?_toArray, List.getElem?_cons_succ, List.getElem?_cons_zero]; rfl
      · kernel_rfl
      · kernel_rfl
      · kernel_rfl
      · exact fun _ _ _ h => h
      · refine Or.inl ⟨by rfl, ?_⟩
        intro w' hSw
        (try dsimp only at hSw)
        go_simp
        all_goals (with_reducible rfl)
      · assumption
      try simp only [Act.put, List.setIfInBounds_toArray, List.set_cons_zero, List.set_cons_succ]
      refine wpAnyH_take (i := 7) (oi := ?_) (v := ?_) ?_ ?_ ?_ ?_ ?_ ?_ ?_ ?_
      rotate_left 2
      · simp only [List.getElem?_toArray, List.getElem?_cons_succ, List.getElem?_cons_zero]; rfl
      · kernel_rfl
      · kernel_rfl
      · kernel_rfl
      · exact fun _ _ _ h => h
      · refine Or.inl ⟨by rfl, ?_⟩
        intro w' hSw
        (try dsimp only at hSw)
        go_simp
        all_goals (with_reducible rfl)
      · assumption
      try simp only [Act.put, List.setIfInBounds_toArray, List.set_cons_zero, List.set_cons_succ]
      refine wpAnyH_take (i := 8) (oi := ?_) (v := ?_) ?_ ?_ ?_ ?_ ?_ ?_ ?_ ?_
      rotate_left 2
      · simp only [List.getElem?_toArray, List.getElem?_cons_succ, List.getElem?_cons_zero]; rfl
      · kernel_rfl
      · kernel_rfl
      · kernel_rfl
      · exact fun _ _ _ h => h
      · refine Or.inl ⟨by rfl, ?_⟩
        intro w' hSw
        (try dsimp only at hSw)
        go_simp
        all_goals (with_reducible rfl)
      · assumption
      try simp only [Act.put, List.setIfInBounds_toArray, List.set_cons_zero, List.set_cons_succ]
      refine wpAnyH_take (i := 9) (oi := ?_) (v := ?_) ?_ ?_ ?_ ?_ ?_ ?_ ?_ ?_
      rotate_left 2
      · simp only [List.getElem?_toArray, List.getElem?_cons_succ, List.getElem?_cons_zero]; rfl
      · kernel_rfl
      · kernel_rfl
      · kernel_rfl
      · exact fun _ _ _ h => h
      · refine Or.inl ⟨by rfl, ?_⟩
        intro w' hSw
        (try dsimp only at hSw)
        go_simp
        all_goals (with_reducible rfl)
      · assumption
      try simp only [Act.put, List.setIfInBounds_toArray, List.set_cons_zero, List.set_cons_succ]
      refine wpAnyH_take (i := 10) (oi := ?_) (v := ?_) ?_ ?_ ?_ ?_ ?_ ?_ ?_ ?_
      rotate_left 2
      · simp only [List.getElem?_toArray, List.getElem?_cons_succ, List.getElem?_cons_zero]; rfl
      · kernel_rfl
      · kernel_rfl
      · kernel_rfl
      · exact fun _ _ _ h => h
      · refine Or.inl ⟨by rfl, ?_⟩
        intro w' hSw
        (try dsimp only at hSw)
        go_simp
        all_goals (with_reducible rfl)
      · assumption
      try simp only [Act.put, List.setIfInBounds_toArray, List.set_cons_zero, List.set_cons_succ]
      refine wpAnyH_ready (rs := [11]) (by kernel_rfl) (by simp) ?_
      refine AllReadyH.cons (o := ?_) ?_ ?_ ?_
      rotate_left 1
      · simp only [List.getElem?_toArray, List.getElem?_cons_succ, List.getElem?_cons_zero]; rfl
      rotate_left 1
      · exact AllReadyH.nil
      intro K hK
      go_simp
      ((with_reducible refine (CS.out _ (H7.out.keep BN.out)).mono ?_); rintro e w11 ⟨rfl, be⟩; have N11 := Lib.hid (G.below_on BN.out be); clear be)
      refine hK.out _ _ (ST.out _ (H7.out.keep N11.out)) (fun hHeld => ?_)
      clear hK K
      try simp only [Act.put, List.setIfInBounds_toArray, List.set_cons_zero, List.set_cons_succ]
      refine wpAnyH_ready (rs := [12]) (by kernel_rfl) (by simp) ?_
      refine AllReadyH.cons (o := ?_) ?_ ?_ ?_
      rotate_left 1
      · simp only [List.getElem?_toArray, List.getElem?_cons_succ, List.getElem?_cons_zero]; rfl
      rotate_left 1
      · exact AllReadyH.nil
      intro K hK
      go_simp
      ((with_reducible refine (CN.out _).mono ?_); rintro e w12 ⟨rfl, be⟩; have N12 := Lib.hid (G.below_on N11.out be); clear be)
      refine hK.out _ _ (ST.out _ (H7.out.keep N12.out)) (fun hHeld => ?_)
      clear hK K
      try simp only [Act.put, List.setIfInBounds_toArray, List.set_cons_zero, List.set_cons_succ]
      refine wpAnyH_ready (rs := [13]) (by kernel_rfl) (by simp) ?_
      refine AllReadyH.cons (o := ?_) ?_ ?_ ?_
      rotate_left 1
      · simp only [List.getElem?_toArray, List.getElem?_cons_succ, List.getElem?_cons_zero]; rfl
      rotate_left 1
      · exact AllReadyH.nil
      intro K hK
      go_simp
      refine ((CP.out _ (H7.out.keep N12.out)).mono ?_); rintro e w13 ⟨rfl, p13, f13⟩; have H13 := Lib.hid (show LmAt w13 N (((s.evict N now o)).put N now key) from by rw [EP.out]; exact (H7.out.keep N12.out).pool p13 f13 (fun k hk => Or.inl hk)); have F13 := Lib.hid ((F7.out.trans ((Fr.of_below N12.out).mono (fun k (hk : False) => hk.elim))).trans (f13.mono (fun k hk => show N.parts k from Or.inl (Or.inl hk)))); have O13 := Lib.hid (Lm.own_fr (Lm.own_fr (F := fun _ => False) O7.out (Fr.of_below N12.out) (fun k hk => hk.elim)) f13 (fun k hk => H0.out.lt k (Or.inl (Or.inl (Or.inl hk))))); have S13 := Lib.hid (Nat.le_trans S7.out (Nat.le_trans N12.out.size f13.size)); clear p13 f13
      refine hK.out _ _ (show ∀ j, w13.cell? ⟨N.l, j, none⟩ = (limC N s.al s.de s.ba)[j]? from H13.out.hl.rd) (fun hHeld => ?_)
      clear hK K
      try simp only [Act.put, List.setIfInBounds_toArray, List.set_cons_zero, List.set_cons_succ]
      refine wpAnyH_done (by kernel_rfl) ?_ _
      clear hHeld
      go_wp2_with (at_builtin; refine G.wpList_push (w0 := w13) (by rfl) _ _ (by rfl) (by rfl) (by rfl) (by rfl) HI2.out.1 HI2.out.2.1 HI2.out.2.2.1 HI2.out.2.2.2 (by rfl) (by omega) O13.out S13.out [.int .i64 0, .string key, .bool true, .int .i64 now] (by rfl) (by simp [Value.oneCell']) (by omega) (by unfold maxLen; omega) ?_; intro g14 cl14 w14 hown14 hf14 hat14; have O14 := Lib.hid hown14; have H14 := Lib.hid (H13.out.fr hf14 (fun k hk e => by have := Lm.own_base O13.out k e; have := H0.out.lt k hk; omega)); have F14 := Lib.hid (show Fr N.parts w w14 from Lm.fr_new F13.out hf14 (fun k e => Lm.own_base O13.out k e)); clear hown14 hf14 hat14)
      go_ret
      exact ⟨_, rfl, O14.out, H14.out, F14.out⟩
  · simp only [Bool.false_eq_true, if_false]
    clear hgs CG
    go_enter Tryz.func57, Tryz.ntmps57
    go_upto_region 10 with (first
      | (go_at_call 68; ((with_reducible refine CF.out.mono ?_); rintro e w2 ⟨rfl, b2⟩; have B2 := Lib.hid b2; have kl2 := (H0.out.keep b2).hl.rd; clear b2))
      | (go_at_call 81; ((with_reducible refine (CU.out _ (H0.out.keep B2.out)).mono ?_); rintro e w7 ⟨rfl, b3⟩; have B3 := Lib.hid (below_in B2.out b3); clear b3)))
    have O7 := Lib.hid (World.ownsRow_nil w7 w.heap.size 70 4)
    have H7 := Lib.hid (H0.out.keep B3.out)
    have F7 := Lib.hid ((Fr.of_below B3.out).mono (fun k (hk : False) => show N.parts k from hk.elim))
    have S7 := Lib.hid (show w.heap.size ≤ w7.heap.size from B3.out.size)
    clear kl kl2
    obtain ⟨i1, hi0, hz0, hz1, hz2⟩ := info_parts infoEv
    have HI2 := Lib.hid (And.intro hi0 (And.intro hz0 (And.intro hz1 hz2)))
    clear hi0 hz0 hz1 hz2
    have CS := Lib.hid (fun wx (hx : LmAt wx N s) => restimate_any key HS.out wx hx.hr)
    have CN := Lib.hid (fun wx => new_any now (estZ N.R s.r key) wx)
    have CP := Lib.hid (fun wx (hx : LmAt wx N s) => plput_any key HS.out (now, now, estZ N.R s.r key, 0) wx hx.hp)
    have EP := Lib.hid (show s.put N now key = { s with σ := (s.σ.put N.Q.N.n key).1, C := plSet s.C (now, now, estZ N.R s.r key, 0) (s.σ.put N.Q.N.n key).2 } from rfl)
    have NP := Lib.hid (fun wx (hx : Calls Tryz.prog 100 #[.pointer (some ⟨N.Q.p, 0, none⟩), .string key, celV (now, now, estZ N.R s.r key, 0)] wx (fun e w' => e = .returned (plP N.Q (s.σ.put N.Q.N.n key).2) ∧ PlAt w' N.Q (s.σ.put N.Q.N.n key).1 (plSet s.C (now, now, estZ N.R s.r key, 0) (s.σ.put N.Q.N.n key).2) ∧ Fr N.Q.F wx w')) => hx)
    obtain ⟨est, hest⟩ : ∃ x, x = estZ N.R s.r key := ⟨_, rfl⟩
    rw [← hest] at CS CN CP EP NP
    clear hest
    have ST := Lib.hid (fun (Wo : World) (hW : LmAt Wo N s) => show ∀ (j : Nat), Wo.cell? ⟨N.l, j, none⟩ = (limC N s.al s.de s.ba)[j]? from hW.hl.rd)
    have BN := Lib.hid (show Below w7.heap.size w7 w7.drew from below_draws (Below.refl _ _) 1)
    have st := ST.out _ (H7.out.keep BN.out)
    refine wp_region_held_drew (S := fun Wo => ∀ j, Wo.cell? ⟨N.l, j, none⟩ = (limC N s.al s.de s.ba)[j]?) (by kernel_rfl) st (fun hHeld => ?_)
    clear st
    refine wpAnyH_take (i := 0) (oi := ?_) (v := ?_) ?_ ?_ ?_ ?_ ?_ ?_ ?_ ?_
    rotate_left 2
    · simp only [List.getElem?_toArray, List.getElem?_cons_succ, List.getElem?_cons_zero]; rfl
    · kernel_rfl
    · kernel_rfl
    · kernel_rfl
    · exact fun _ _ _ h => h
    · refine Or.inl ⟨by rfl, ?_⟩
      intro w' hSw
      (try dsimp only at hSw)
      go_simp
      all_goals (with_reducible rfl)
    · assumption
    try simp only [Act.put, List.setIfInBounds_toArray, List.set_cons_zero, List.set_cons_succ]
    refine wpAnyH_take (i := 1) (oi := ?_) (v := ?_) ?_ ?_ ?_ ?_ ?_ ?_ ?_ ?_
    rotate_left 2
    · simp only [List.getElem?_toArray, List.getElem?_cons_succ, List.getElem?_cons_zero]; rfl
    · kernel_rfl
    · kernel_rfl
    · kernel_rfl
    · exact fun _ _ _ h => h
    · refine Or.inl ⟨by rfl, ?_⟩
      intro w' hSw
      (try dsimp only at hSw)
      go_simp
      all_goals (with_reducible rfl)
    · assumption
    try simp only [Act.put, List.setIfInBounds_toArray, List.set_cons_zero, List.set_cons_succ]
    refine wpAnyH_take (i := 2) (oi := ?_) (v := ?_) ?_ ?_ ?_ ?_ ?_ ?_ ?_ ?_
    rotate_left 2
    · simp only [List.getElem?_toArray, List.getElem?_cons_succ, List.getElem?_cons_zero]; rfl
    · kernel_rfl
    · kernel_rfl
    · kernel_rfl
    · exact fun _ _ _ h => h
    · refine Or.inl ⟨by rfl, ?_⟩
      intro w' hSw
      (try dsimp only at hSw)
      go_simp
      all_goals (with_reducible rfl)
    · assumption
    try simp only [Act.put, List.setIfInBounds_toArray, List.set_cons_zero, List.set_cons_succ]
    refine wpAnyH_take (i := 3) (oi := ?_) (v := ?_) ?_ ?_ ?_ ?_ ?_ ?_ ?_ ?_
    rotate_left 2
    · simp only [List.getElem?_toArray, List.getElem?_cons_succ, List.getElem?_cons_zero]; rfl
    · kernel_rfl
    · kernel_rfl
    · kernel_rfl
    · exact fun _ _ _ h => h
    · refine Or.inl ⟨by rfl, ?_⟩
      intro w' hSw
      (try dsimp only at hSw)
      go_simp
      all_goals (with_reducible rfl)
    · assumption
    try simp only [Act.put, List.setIfInBounds_toArray, List.set_cons_zero, List.set_cons_succ]
    refine wpAnyH_take (i := 4) (oi := ?_) (v := ?_) ?_ ?_ ?_ ?_ ?_ ?_ ?_ ?_
    rotate_left 2
    · simp only [List.getElem?_toArray, List.getElem?_cons_succ, List.getElem?_cons_zero]; rfl
    · kernel_rfl
    · kernel_rfl
    · kernel_rfl
    · exact fun _ _ _ h => h
    · refine Or.inl ⟨by rfl, ?_⟩
      intro w' hSw
      (try dsimp only at hSw)
      go_simp
      all_goals (with_reducible rfl)
    · assumption
    try simp only [Act.put, List.setIfInBounds_toArray, List.set_cons_zero, List.set_cons_succ]
    refine wpAnyH_take (i := 5) (oi := ?_) (v := ?_) ?_ ?_ ?_ ?_ ?_ ?_ ?_ ?_
    rotate_left 2
    · simp only [List.getElem?_toArray, List.getElem?_cons_succ, List.getElem?_cons_zero]; rfl
    · kernel_rfl
    · kernel_rfl
    · kernel_rfl
    · exact fun _ _ _ h => h
    · refine Or.inl ⟨by rfl, ?_⟩
      intro w' hSw
      (try dsimp only at hSw)
      go_simp
      all_goals (with_reducible rfl)
    · assumption
    try simp only [Act.put, List.setIfInBounds_toArray, List.set_cons_zero, List.set_cons_succ]
    refine wpAnyH_take (i := 6) (oi := ?_) (v := ?_) ?_ ?_ ?_ ?_ ?_ ?_ ?_ ?_
    rotate_left 2
    · simp only [List.getElem?_toArray, List.getElem?_cons_succ, List.getElem?_cons_zero]; rfl
    · kernel_rfl
    · kernel_rfl
    · kernel_rfl
    · exact fun _ _ _ h => h
    · refine Or.inl ⟨by rfl, ?_⟩
      intro w' hSw
      (try dsimp only at hSw)
      go_simp
      all_goals (with_reducible rfl)
    · assumption
    try simp only [Act.put, List.setIfInBounds_toArray, List.set_cons_zero, List.set_cons_succ]
    refine wpAnyH_take (i := 7) (oi := ?_) (v := ?_) ?_ ?_ ?_ ?_ ?_ ?_ ?_ ?_
    rotate_left 2
    · simp only [List.getElem?_toArray, List.getElem?_cons_succ, List.getElem?_cons_zero]; rfl
    · kernel_rfl
    · kernel_rfl
    · kernel_rfl
    · exact fun _ _ _ h => h
    · refine Or.inl ⟨by rfl, ?_⟩
      intro w' hSw
      (try dsimp only at hSw)
      go_simp
      all_goals (with_reducible rfl)
    · assumption
    try simp only [Act.put, List.setIfInBounds_toArray, List.set_cons_zero, List.set_cons_succ]
    refine wpAnyH_take (i := 8) (oi := ?_) (v := ?_) ?_ ?_ ?_ ?_ ?_ ?_ ?_ ?_
    rotate_left 2
    · simp only [List.getElem?_toArray, List.getElem?_cons_succ, List.getElem?_cons_zero]; rfl
    · kernel_rfl
    · kernel_rfl
    · kernel_rfl
    · exact fun _ _ _ h => h
    · refine Or.inl ⟨by rfl, ?_⟩
      intro w' hSw
      (try dsimp only at hSw)
      go_simp
      all_goals (with_reducible rfl)
    · assumption
    try simp only [Act.put, List.setIfInBounds_toArray, List.set_cons_zero, List.set_cons_succ]
    refine wpAnyH_take (i := 9) (oi := ?_) (v := ?_) ?_ ?_ ?_ ?_ ?_ ?_ ?_ ?_
    rotate_left 2
    · simp only [List.getElem?_toArray, List.getElem?_cons_succ, List.getElem?_cons_zero]; rfl
    · kernel_rfl
    · kernel_rfl
    · kernel_rfl
    · exact fun _ _ _ h => h
    · refine Or.inl ⟨by rfl, ?_⟩
      intro w' hSw
      (try dsimp only at hSw)
      go_simp
      all_goals (with_reducible rfl)
    · assumption
    try simp only [Act.put, List.setIfInBounds_toArray, List.set_cons_zero, List.set_cons_succ]
    refine wpAnyH_take (i := 10) (oi := ?_) (v := ?_) ?_ ?_ ?_ ?_ ?_ ?_ ?_ ?_
    rotate_left 2
    · simp only [List.getElem?_toArray, List.getElem?_cons_succ, List.getElem?_cons_zero]; rfl
    · kernel_rfl
    · kernel_rfl
    · kernel_rfl
    · exact fun _ _ _ h => h
    · refine Or.inl ⟨by rfl, ?_⟩
      intro w' hSw
      (try dsimp only at hSw)
      go_simp
      all_goals (with_reducible rfl)
    · assumption
    try simp only [Act.put, List.setIfInBounds_toArray, List.set_cons_zero, List.set_cons_succ]
    refine wpAnyH_ready (rs := [11]) (by kernel_rfl) (by simp) ?_
    refine AllReadyH.cons (o := ?_) ?_ ?_ ?_
    rotate_left 1
    · simp only [List.getElem?_toArray, List.getElem?_cons_succ, List.getElem?_cons_zero]; rfl
    rotate_left 1
    · exact AllReadyH.nil
    intro K hK
    go_simp
    ((with_reducible refine (CS.out _ (H7.out.keep BN.out)).mono ?_); rintro e w11 ⟨rfl, be⟩; have N11 := Lib.hid (G.below_on BN.out be); clear be)
    refine hK.out _ _ (ST.out _ (H7.out.keep N11.out)) (fun hHeld => ?_)
    clear hK K
    try simp only [Act.put, List.setIfInBounds_toArray, List.set_cons_zero, List.set_cons_succ]
    refine wpAnyH_ready (rs := [12]) (by kernel_rfl) (by simp) ?_
    refine AllReadyH.cons (o := ?_) ?_ ?_ ?_
    rotate_left 1
    · simp only [List.getElem?_toArray, List.getElem?_cons_succ, List.getElem?_cons_zero]; rfl
    rotate_left 1
    · exact AllReadyH.nil
    intro K hK
    go_simp
    ((with_reducible refine (CN.out _).mono ?_); rintro e w12 ⟨rfl, be⟩; have N12 := Lib.hid (G.below_on N11.out be); clear be)
    refine hK.out _ _ (ST.out _ (H7.out.keep N12.out)) (fun hHeld => ?_)
    clear hK K
    try simp only [Act.put, List.setIfInBounds_toArray, List.set_cons_zero, List.set_cons_succ]
    refine wpAnyH_ready (rs := [13]) (by kernel_rfl) (by simp) ?_
    refine AllReadyH.cons (o := ?_) ?_ ?_ ?_
    rotate_left 1
    · simp only [List.getElem?_toArray, List.getElem?_cons_succ, List.getElem?_cons_zero]; rfl
    rotate_left 1
    · exact AllReadyH.nil
    intro K hK
    go_simp
    refine ((CP.out _ (H7.out.keep N12.out)).mono ?_); rintro e w13 ⟨rfl, p13, f13⟩; have H13 := Lib.hid (show LmAt w13 N (s.put N now key) from by rw [EP.out]; exact (H7.out.keep N12.out).pool p13 f13 (fun k hk => Or.inl hk)); have F13 := Lib.hid ((F7.out.trans ((Fr.of_below N12.out).mono (fun k (hk : False) => hk.elim))).trans (f13.mono (fun k hk => show N.parts k from Or.inl (Or.inl hk)))); have O13 := Lib.hid (Lm.own_fr (Lm.own_fr (F := fun _ => False) O7.out (Fr.of_below N12.out) (fun k hk => hk.elim)) f13 (fun k hk => H0.out.lt k (Or.inl (Or.inl (Or.inl hk))))); have S13 := Lib.hid (Nat.le_trans S7.out (Nat.le_trans N12.out.size f13.size)); clear p13 f13
    refine hK.out _ _ (show ∀ j, w13.cell? ⟨N.l, j, none⟩ = (limC N s.al s.de s.ba)[j]? from H13.out.hl.rd) (fun hHeld => ?_)
    clear hK K
    try simp only [Act.put, List.setIfInBounds_toArray, List.set_cons_zero, List.set_cons_succ]
    refine wpAnyH_done (by kernel_rfl) ?_ _
    clear hHeld
    go_wp2_with (at_builtin; refine G.wpList_push (w0 := w13) (by rfl) _ _ (by rfl) (by rfl) (by rfl) (by rfl) HI2.out.1 HI2.out.2.1 HI2.out.2.2.1 HI2.out.2.2.2 (by rfl) (by omega) O13.out S13.out [.int .i64 0, .string key, .bool true, .int .i64 now] (by rfl) (by simp [Value.oneCell']) (by omega) (by unfold maxLen; omega) ?_; intro g14 cl14 w14 hown14 hf14 hat14; have O14 := Lib.hid hown14; have H14 := Lib.hid (H13.out.fr hf14 (fun k hk e => by have := Lm.own_base O13.out k e; have := H0.out.lt k hk; omega)); have F14 := Lib.hid (show Fr N.parts w w14 from Lm.fr_new F13.out hf14 (fun k e => Lm.own_base O13.out k e)); clear hown14 hf14 hat14)
    go_ret
    exact ⟨_, rfl, O14.out, H14.out, F14.out⟩
end
end Go.Proofs.YtbgcpljekcagiaaGreat
/- The contracts of layer 12 (limiter): the cell that a key has, or would get. -/
namespace Go.Proofs.YtbgcpljekcagiaaGreat
set_option linter.unusedSimpArgs false
set_option linter.unusedVariables false
set_option maxRecDepth 100000
open Go.ChangeShapes Go.WideShapes Go.ChangeAt Go.RowKit
open Ar (inR)
section
variable {N : LmN} {s : LmS}
/-- the cell that a key has, or would get without a heavier key's losing one. -/
def LmS.resi (s : LmS) (N : LmN) (now : Int) (key : ByteArray) : Option Cel :=
  match posN N.Q.N.n s.σ.K key with
  | some i => some (s.C.getD i (0, 0, 0, 0))
  | none => if s.full N = true ∧ (plIdle (s.res N) N.W now).isSome = false then none else some (now, now, estZ N.R s.r key, 0)
def resV : Option Cel → Value
  | some c => .tuple #[celV c, .bool true]
  | none => .tuple #[celV (0, 0, 0, 0), .bool false]
set_option maxHeartbeats 4000000 in
theorem lmresident_any (now : Int) (key : ByteArray) (hs : key.size ≤ maxLen) (w : World) (h : LmAt w N s) (hg : LmG N s now) :
    Calls Tryz.prog 44 #[.pointer (some ⟨N.l, 0, none⟩), .int .i64 now, .string key] w fun e w' => e = .returned (resV (s.resi N now key)) ∧ Below w.heap.size w w' := by
  obtain ⟨w1, hw1, k1, l1, s1⟩ := box_new w #[.int .i64 0, .int .i64 0, .int .i64 0, .int .i64 0] 64
  obtain ⟨bx, hbx⟩ : ∃ bx, bx = w.heap.size := ⟨_, rfl⟩
  have CF := Lib.hid (plfind_any key hs w1 (h.hp.keep l1))
  have H1 := Lib.hid (h.keep l1)
  have HLT := Lib.hid (show ∀ k, N.all k → k ≠ bx from fun k hk e => by have := h.lt k hk; omega)
  have hlen := h.hp.len
  have hpos : ∀ i, posN N.Q.N.n s.σ.K key = some i → i < s.C.length := fun i hi => by rw [hlen]; exact (posN_some hi).1
  have hW : inR N.W := by unfold inR; have := hg.W; omega
  have CI := Lib.hid (fun wx (hx : LmAt wx N s) => plidle_any N.Q s.σ s.C N.U N.W N.B N.L now hW wx hx.hp (fun x hx => by have := (hg.c x hx).1.S; unfold inR; omega))
  have CU := Lib.hid (fun wx (hx : LmAt wx N s) => show Calls Tryz.prog 81 #[.pointer (some ⟨N.Q.p, 0, none⟩)] wx (fun e w' => e = .returned (.bool (s.full N)) ∧ Below wx.heap.size wx w') from plfull_any wx hx.hp)
  have CE := Lib.hid (fun wx (hx : LmAt wx N s) => restimate_any key hs wx hx.hr)
  have CN := Lib.hid (fun wx => new_any now (estZ N.R s.r key) wx)
  rw [← hbx] at k1
  have K1 := Lib.hid k1
  have L1 := Lib.hid l1
  have HB := Lib.hid hbx
  have kl := H1.out.hl.rd
  have kr := k1.rd
  have kw := k1.wr
  have er : s.resi N now key = match posN N.Q.N.n s.σ.K key with
      | some i => some (s.C.getD i (0, 0, 0, 0))
      | none => if s.full N = true ∧ (plIdle (s.res N) N.W now).isSome = false then none else some (now, now, estZ N.R s.r key, 0) := rfl
  rw [er]
  clear er k1 l1 s1 h hlen hW
  cases hp : posN N.Q.N.n s.σ.K key with
  | some i =>
    rw [hp] at CF
    have hil := hpos i hp
    obtain ⟨c, hci⟩ : ∃ c, s.C[i]? = some c := ⟨_, List.getElem?_eq_getElem hil⟩
    have hcD : s.C.getD i (0, 0, 0, 0) = c := by rw [List.getD_eq_getElem?_getD, hci]; rfl
    simp only [hcD]
    have HSI := Lib.hid hci
    have CF := Lib.hid (show Calls Tryz.prog 68 #[.pointer (some ⟨N.Q.p, 0, none⟩), .string key] w1 (fun e w' => e = .returned (.pointer (some ⟨N.Q.cb, i * 4, none⟩)) ∧ Below w1.heap.size w1 w') from CF.out)
    clear hp hpos hil hci hcD CI CU CE CN
    go_enter Tryz.func44, Tryz.ntmps44
    go_upto_region 1 with (fail)
    rw [← HB.out]
    clear hw1 hbx
    go_wp2_with (go_at_call 68; ((with_reducible refine CF.out.mono ?_); rintro e w2 ⟨rfl, b2⟩; have H2 := Lib.hid (H1.out.keep b2); obtain ⟨q0, q1, q2, q3⟩ := H2.out.hp.cell HSI.out; have K2 := Lib.hid (K1.out.keep b2); have kr2 := K2.out.rd; have kw2 := K2.out.wr; have B2 := Lib.hid (below_in L1.out b2); clear b2 kr kw))
    rw [four_setC K2.out]
    refine bodyPost_ret (results_rowT rfl _ _ bx _ _ (0, 0) _ rfl (setObj_at (lt_of_block K2.out) _) Tryz.underlying64 rfl (by kernel_rfl)) rfl ?_
    exact ⟨rfl, B2.out.trans ((Fr.setObj (F := fun k => k = bx) (Fr.refl _ _) rfl _).below B2.out.size (fun k hk => by have := HB.out; omega))⟩
  | none =>
    rw [hp] at CF
    have CF := Lib.hid (show Calls Tryz.prog 68 #[.pointer (some ⟨N.Q.p, 0, none⟩), .string key] w1 (fun e w' => e = .returned (.pointer none) ∧ Below w1.heap.size w1 w') from CF.out)
    have CI := Lib.hid (fun wx (hx : LmAt wx N s) => show Calls Tryz.prog 80 #[.pointer (some ⟨N.Q.p, 0, none⟩), pv N.U N.W N.B N.L, .int .i64 now] wx (fun e w' => ∃ k, e = .returned (.tuple #[.string k, .bool (plIdle (s.res N) N.W now).isSome]) ∧ Below wx.heap.size wx w') from (CI.out wx hx).mono (fun e w' hh => by
      obtain ⟨⟨y, hy⟩, hb⟩ := hh
      rcases hy with ⟨hy, he⟩ | ⟨hy, he⟩
      · rw [show plIdle (s.res N) N.W now = some y from hy]; exact ⟨_, he, hb⟩
      · rw [show plIdle (s.res N) N.W now = none from hy]; exact ⟨_, he, hb⟩))
    clear hp hpos
    obtain ⟨id, hid⟩ : ∃ id, id = (plIdle (s.res N) N.W now).isSome := ⟨_, rfl⟩
    obtain ⟨fu, hfu⟩ : ∃ fu, fu = s.full N := ⟨_, rfl⟩
    obtain ⟨est, hest⟩ : ∃ est, est = estZ N.R s.r key := ⟨_, rfl⟩
    rw [← hid] at CI
    rw [← hfu] at CU
    rw [← hest] at CE CN
    simp only [← hid, ← hfu, ← hest]
    clear hid hfu hest
    have ST := Lib.hid (fun (Wo : World) (hW : LmAt Wo N s) => hW.hl.rd)
    have hcase : (fu = true ∧ id = false) ∨ fu = false ∨ (fu = true ∧ id = true) := by cases fu <;> cases id <;> simp
    rcases hcase with ⟨rfl, rfl⟩ | rfl | ⟨rfl, rfl⟩
    focus
      simp only [and_self, if_true]
    rotate_left
    focus
      simp only [Bool.false_eq_true, false_and, if_false]
    rotate_left
    focus
      simp only [Bool.true_eq_false, and_false, if_false]
    rotate_left
    all_goals
      go_enter Tryz.func44, Tryz.ntmps44
      go_upto_region 1 with (fail)
      rw [← HB.out]
      clear hw1 hbx
      go_upto_region 4 with (go_at_call 68; ((with_reducible refine CF.out.mono ?_); rintro e w2 ⟨rfl, b2⟩; have H2 := Lib.hid (H1.out.keep b2); have K2 := Lib.hid (K1.out.keep b2); have B2 := Lib.hid (below_in L1.out b2); clear b2 kr kw kl))
      have BN := Lib.hid (show Below w2.heap.size w2 w2.drew from below_draws (Below.refl _ _) 1)
      have st := ST.out _ (H2.out.keep BN.out)
      refine wp_region_held_drew (S := fun Wo => ∀ j, Wo.cell? ⟨N.l, j, none⟩ = (limC N s.al s.de s.ba)[j]?) (by kernel_rfl) st (fun hHeld => ?_)
      clear st
      refine wpAnyH_take (i := 0) (oi := ?_) (v := ?_) ?_ ?_ ?_ ?_ ?_ ?_ ?_ ?_
      rotate_left 2
      · simp only [List.getElem?_toArray, List.getElem?_cons_succ, List.getElem?_cons_zero]; rfl
      · kernel_rfl
      · kernel_rfl
      · kernel_rfl
      · exact fun _ _ _ h => h
      · refine Or.inl ⟨by rfl, ?_⟩
        intro w' hSw
        (try dsimp only at hSw)
        go_simp
        all_goals (with_reducible rfl)
      · assumption
      try simp only [Act.put, List.setIfInBounds_toArray, List.set_cons_zero, List.set_cons_succ]
      refine wpAnyH_take (i := 1) (oi := ?_) (v := ?_) ?_ ?_ ?_ ?_ ?_ ?_ ?_ ?_
      rotate_left 2
      · simp only [List.getElem?_toArray, List.getElem?_cons_succ, List.getElem?_cons_zero]; rfl
      · kernel_rfl
      · kernel_rfl
      · kernel_rfl
      · exact fun _ _ _ h => h
      · refine Or.inl ⟨by rfl, ?_⟩
        intro w' hSw
        (try dsimp only at hSw)
        go_simp
        all_goals (with_reducible rfl)
      · assumption
      try simp only [Act.put, List.setIfInBounds_toArray, List.set_cons_zero, List.set_cons_succ]
      refine wpAnyH_take (i := 2) (oi := ?_) (v := ?_) ?_ ?_ ?_ ?_ ?_ ?_ ?_ ?_
      rotate_left 2
      · simp only [List.getElem?_toArray, List.getElem?_cons_succ, List.getElem?_cons_zero]; rfl
      · kernel_rfl
      · kernel_rfl
      · kernel_rfl
      · exact fun _ _ _ h => h
      · refine Or.inl ⟨by rfl, ?_⟩
        intro w' hSw
        (try dsimp only at hSw)
        go_simp
        all_goals (with_reducible rfl)
      · assumption
      try simp only [Act.put, List.setIfInBounds_toArray, List.set_cons_zero, List.set_cons_succ]
      refine wpAnyH_take (i := 3) (oi := ?_) (v := ?_) ?_ ?_ ?_ ?_ ?_ ?_ ?_ ?_
      rotate_left 2
      · simp only [List.getElem?_toArray, List.getElem?_cons_succ, List.getElem?_cons_zero]; rfl
      · kernel_rfl
      · kernel_rfl
      · kernel_rfl
      · exact fun _ _ _ h => h
      · refine Or.inl ⟨by rfl, ?_⟩
        intro w' hSw
        (try dsimp only at hSw)
        go_simp
        all_goals (with_reducible rfl)
      · assumption
      try simp only [Act.put, List.setIfInBounds_toArray, List.set_cons_zero, List.set_cons_succ]
      refine wpAnyH_take (i := 4) (oi := ?_) (v := ?_) ?_ ?_ ?_ ?_ ?_ ?_ ?_ ?_
      rotate_left 2
      · simp only [List.getElem?_toArray, List.getElem?_cons_succ, List.getElem?_cons_zero]; rfl
      · kernel_rfl
      · kernel_rfl
      · kernel_rfl
      · exact fun _ _ _ h => h
      · refine Or.inl ⟨by rfl, ?_⟩
        intro w' hSw
        (try dsimp only at hSw)
        go_simp
        all_goals (with_reducible rfl)
      · assumption
      try simp only [Act.put, List.setIfInBounds_toArray, List.set_cons_zero, List.set_cons_succ]
      refine wpAnyH_take (i := 5) (oi := ?_) (v := ?_) ?_ ?_ ?_ ?_ ?_ ?_ ?_ ?_
      rotate_left 2
      · simp only [List.getElem?_toArray, List.getElem?_cons_succ, List.getElem?_cons_zero]; rfl
      · kernel_rfl
      · kernel_rfl
      · kernel_rfl
      · exact fun _ _ _ h => h
      · refine Or.inl ⟨by rfl, ?_⟩
        intro w' hSw
        (try dsimp only at hSw)
        go_simp
        all_goals (with_reducible rfl)
      · assumption
      try simp only [Act.put, List.setIfInBounds_toArray, List.set_cons_zero, List.set_cons_succ]
      refine wpAnyH_take (i := 6) (oi := ?_) (v := ?_) ?_ ?_ ?_ ?_ ?_ ?_ ?_ ?_
      rotate_left 2
      · simp only [List.getElem?_toArray, List.getElem?_cons_succ, List.getElem?_cons_zero]; rfl
      · kernel_rfl
      · kernel_rfl
      · kernel_rfl
      · exact fun _ _ _ h => h
      · refine Or.inl ⟨by rfl, ?_⟩
        intro w' hSw
        (try dsimp only at hSw)
        go_simp
        all_goals (with_reducible rfl)
      · assumption
      try simp only [Act.put, List.setIfInBounds_toArray, List.set_cons_zero, List.set_cons_succ]
      refine wpAnyH_take (i := 7) (oi := ?_) (v := ?_) ?_ ?_ ?_ ?_ ?_ ?_ ?_ ?_
      rotate_left 2
      · simp only [List.getElem?_toArray, List.getElem?_cons_succ, List.getElem?_cons_zero]; rfl
      · kernel_rfl
      · kernel_rfl
      · kernel_rfl
      · exact fun _ _ _ h => h
      · refine Or.inl ⟨by rfl, ?_⟩
        intro w' hSw
        (try dsimp only at hSw)
        go_simp
        all_goals (with_reducible rfl)
      · assumption
      try simp only [Act.put, List.setIfInBounds_toArray, List.set_cons_zero, List.set_cons_succ]
      refine wpAnyH_take (i := 8) (oi := ?_) (v := ?_) ?_ ?_ ?_ ?_ ?_ ?_ ?_ ?_
      rotate_left 2
      · simp only [List.getElem?_toArray, List.getElem?_cons_succ, List.getElem?_cons_zero]; rfl
      · kernel_rfl
      · kernel_rfl
      · kernel_rfl
      · exact fun _ _ _ h => h
      · refine Or.inl ⟨by rfl, ?_⟩
        intro w' hSw
        (try dsimp only at hSw)
        go_simp
        all_goals (with_reducible rfl)
      · assumption
      try simp only [Act.put, List.setIfInBounds_toArray, List.set_cons_zero, List.set_cons_succ]
      refine wpAnyH_ready (rs := [9]) (by kernel_rfl) (by simp) ?_
      refine AllReadyH.cons (o := ?_) ?_ ?_ ?_
      rotate_left 1
      · simp only [List.getElem?_toArray, List.getElem?_cons_succ, List.getElem?_cons_zero]; rfl
      rotate_left 1
      · exact AllReadyH.nil
      intro K hK
      go_simp
      ((with_reducible refine (CI.out _ (H2.out.keep BN.out)).mono ?_); rintro e w9 ⟨ik, rfl, be⟩; have N9 := Lib.hid (G.below_on BN.out be); clear be)
      refine hK.out _ _ (ST.out _ (H2.out.keep N9.out)) (fun hHeld => ?_)
      clear hK K
      try simp only [Act.put, List.setIfInBounds_toArray, List.set_cons_zero, List.set_cons_succ]
      refine wpAnyH_take (i := 10) (oi := ?_) (v := ?_) ?_ ?_ ?_ ?_ ?_ ?_ ?_ ?_
      rotate_left 2
      · simp only [List.getElem?_toArray, List.getElem?_cons_succ, List.getElem?_cons_zero]; rfl
      · kernel_rfl
      · kernel_rfl
      · kernel_rfl
      · exact fun _ _ _ h => h
      · refine Or.inl ⟨by rfl, ?_⟩
        intro w' hSw
        (try dsimp only at hSw)
        go_simp
        all_goals (with_reducible rfl)
      · assumption
      try simp only [Act.put, List.setIfInBounds_toArray, List.set_cons_zero, List.set_cons_succ]
      refine wpAnyH_take (i := 11) (oi := ?_) (v := ?_) ?_ ?_ ?_ ?_ ?_ ?_ ?_ ?_
      rotate_left 2
      · simp only [List.getElem?_toArray, List.getElem?_cons_succ, List.getElem?_cons_zero]; rfl
      · kernel_rfl
      · kernel_rfl
      · kernel_rfl
      · exact fun _ _ _ h => h
      · refine Or.inl ⟨by rfl, ?_⟩
        intro w' hSw
        (try dsimp only at hSw)
        go_simp
        all_goals (with_reducible rfl)
      · assumption
      try simp only [Act.put, List.setIfInBounds_toArray, List.set_cons_zero, List.set_cons_succ]
      refine wpAnyH_take (i := 12) (oi := ?_) (v := ?_) ?_ ?_ ?_ ?_ ?_ ?_ ?_ ?_
      rotate_left 2
      · simp only [List.getElem?_toArray, List.getElem?_cons_succ, List.getElem?_cons_zero]; rfl
      · kernel_rfl
      · kernel_rfl
      · kernel_rfl
      · exact fun _ _ _ h => h
      · refine Or.inl ⟨by rfl, ?_⟩
        intro w' hSw
        (try dsimp only at hSw)
        go_simp
        all_goals (with_reducible rfl)
      · assumption
      try simp only [Act.put, List.setIfInBounds_toArray, List.set_cons_zero, List.set_cons_succ]
      refine wpAnyH_take (i := 13) (oi := ?_) (v := ?_) ?_ ?_ ?_ ?_ ?_ ?_ ?_ ?_
      rotate_left 2
      · simp only [List.getElem?_toArray, List.getElem?_cons_succ, List.getElem?_cons_zero]; rfl
      · kernel_rfl
      · kernel_rfl
      · kernel_rfl
      · exact fun _ _ _ h => h
      · refine Or.inl ⟨by rfl, ?_⟩
        intro w' hSw
        (try dsimp only at hSw)
        go_simp
        all_goals (with_reducible rfl)
      · assumption
      try simp only [Act.put, List.setIfInBounds_toArray, List.set_cons_zero, List.set_cons_succ]
      refine wpAnyH_take (i := 14) (oi := ?_) (v := ?_) ?_ ?_ ?_ ?_ ?_ ?_ ?_ ?_
      rotate_left 2
      · simp only [List.getElem?_toArray, List.getElem?_cons_succ, List.getElem?_cons_zero]; rfl
      · kernel_rfl
      · kernel_rfl
      · kernel_rfl
      · exact fun _ _ _ h => h
      · refine Or.inl ⟨by rfl, ?_⟩
        intro w' hSw
        (try dsimp only at hSw)
        go_simp
        all_goals (with_reducible rfl)
      · assumption
      try simp only [Act.put, List.setIfInBounds_toArray, List.set_cons_zero, List.set_cons_succ]
      refine wpAnyH_done (by kernel_rfl) ?_ _
      clear hHeld
      have H9 := Lib.hid (H2.out.keep N9.out)
      have kl9 := H9.out.hl.rd
      have K9 := Lib.hid (K2.out.keep N9.out)
      have kw9 := K9.out.wr
      have kr9 := K9.out.rd
      go_wp2_with (first
        | (go_at_call 81; ((with_reducible refine (CU.out _ H9.out).mono ?_); rintro e w10 ⟨rfl, be⟩; have N10 := Lib.hid (below_in N9.out be); have H10 := Lib.hid (H9.out.keep be); have kl10 := H10.out.hl.rd; have K10 := Lib.hid (K9.out.keep be); have kw10 := K10.out.wr; have kr10 := K10.out.rd; clear be))
        | (go_at_call 83; ((with_reducible refine (CE.out _ H10.out).mono ?_); rintro e w11 ⟨rfl, be⟩; have N11 := Lib.hid (below_in N10.out be); have K11 := Lib.hid (K10.out.keep be); clear be))
        | (go_at_call 82; ((with_reducible refine (CN.out _).mono ?_); rintro e w12 ⟨rfl, be⟩; have N12 := Lib.hid (below_in N11.out be); have K12 := Lib.hid (K11.out.keep be); have kw12 := K12.out.wr; have kr12 := K12.out.rd; clear be)))
      first
        | (rw [four_setC K12.out]
           refine bodyPost_ret (results_rowT rfl _ _ bx _ _ (0, 0) _ rfl (setObj_at (lt_of_block K12.out) _) Tryz.underlying64 rfl (by kernel_rfl)) rfl ?_
           exact ⟨rfl, (below_in B2.out N12.out).trans ((Fr.setObj (F := fun k => k = bx) (Fr.refl _ _) rfl _).below (below_in B2.out N12.out).size (fun k hk => by have := HB.out; omega))⟩)
        | (rw [four_setC K10.out]
           refine bodyPost_ret (results_rowT rfl _ _ bx _ _ (0, 0) _ rfl (setObj_at (lt_of_block K10.out) _) Tryz.underlying64 rfl (by kernel_rfl)) rfl ?_
           exact ⟨rfl, (below_in B2.out N10.out).trans ((Fr.setObj (F := fun k => k = bx) (Fr.refl _ _) rfl _).below (below_in B2.out N10.out).size (fun k hk => by have := HB.out; omega))⟩)
end
end Go.Proofs.YtbgcpljekcagiaaGreat
/- The contracts of layer 12 (limiter): Totals, Resident, Mass. -/
namespace Go.Proofs.YtbgcpljekcagiaaGreat
set_option linter.unusedSimpArgs false
set_option linter.unusedVariables false
set_option maxRecDepth 100000
open Go.ChangeShapes Go.WideShapes Go.ChangeAt Go.RowKit
open Ar (inR)
theorem five_setC {w : World} {b : Nat} {t : TypeId} {a0 a1 a2 a3 a4 v0 v1 v2 v3 v4 : Value} (h : Blk w b t #[a0, a1, a2, a3, a4]) :
    (((((w.setCell ⟨b, 0, none⟩ v0).setCell ⟨b, 1, none⟩ v1).setCell ⟨b, 2, none⟩ v2).setCell ⟨b, 3, none⟩ v3).setCell ⟨b, 4, none⟩ v4) = setObj w b (.cells #[v0, v1, v2, v3, v4] t (0, 0)) := by
  have hl := lt_of_block h
  rw [setCell_obj h]
  simp only [setCell_in hl, List.setIfInBounds_toArray, List.set_cons_zero, List.set_cons_succ]
section
variable {N : LmN} {s : LmS}
/-- how many of the pool's cells are keys'. -/
def LmS.len (s : LmS) (N : LmN) : Int := ((N.Q.N.n - s.σ.fl.length : Nat) : Int)
abbrev totV (a d b c t : Int) : Value := .agg #[.int .i64 a, .int .i64 d, .int .i64 b, .int .i64 c, .int .i64 t]
set_option maxHeartbeats 4000000 in
theorem lmtotals_any (w : World) (h : LmAt w N s) :
    Calls Tryz.prog 27 #[.pointer (some ⟨N.l, 0, none⟩)] w fun e w' => e = .returned (totV s.al s.de s.ba (s.len N) s.tot) ∧ Below w.heap.size w w' := by
  obtain ⟨w1, hw1, k1, l1, s1⟩ := box_new w #[.int .i64 0, .int .i64 0, .int .i64 0, .int .i64 0, .int .i64 0] 47
  obtain ⟨bx, hbx⟩ : ∃ bx, bx = w.heap.size := ⟨_, rfl⟩
  have H1 := Lib.hid (h.keep l1)
  have HLT := Lib.hid (show ∀ k, N.all k → k < w.heap.size from fun k hk => h.lt k hk)
  rw [← hbx] at k1
  have K1 := Lib.hid k1
  have L1 := Lib.hid l1
  have HB := Lib.hid hbx
  have kl := H1.out.hl.rd
  have CL := Lib.hid (fun wx (hx : LmAt wx N s) => show Calls Tryz.prog 62 #[.pointer (some ⟨N.Q.p, 0, none⟩)] wx (fun e w' => e = .returned (.int .i64 (s.len N)) ∧ Below wx.heap.size wx w') from pllen_any wx hx.hp)
  have CT := Lib.hid (fun wx (hx : LmAt wx N s) => smtotalM wx hx.hm)
  obtain ⟨le, hle⟩ : ∃ x, x = s.len N := ⟨_, rfl⟩
  rw [← hle] at CL ⊢
  clear hle k1 l1 s1 h
  go_enter Tryz.func27, Tryz.ntmps27
  go_upto_region 1 with (fail)
  rw [← HB.out]
  clear hw1 hbx
  go_upto_region 2 with (fail)
  obtain ⟨w3, e3, k3, b3, s3⟩ := box_new w1 #[.int .i64 s.al, .int .i64 s.de, .int .i64 s.ba, .int .i64 0, .int .i64 0] 47
  rw [e3]
  have H3 := Lib.hid (H1.out.keep b3)
  have KX := Lib.hid (K1.out.keep b3)
  have F3 := Lib.hid (show Below w.heap.size w w3 from below_in L1.out b3)
  have NY := Lib.hid (show w.heap.size ≤ w1.heap.size ∧ bx < w1.heap.size from ⟨L1.out.size, lt_of_block K1.out⟩)
  generalize w1.heap.size = yb at k3 NY ⊢
  have NXY := Lib.hid (show (∀ k, N.all k → k ≠ bx ∧ k ≠ yb) ∧ bx ≠ yb from ⟨fun k hk => by have := HLT.out k hk; have := HB.out; have := NY.out; omega, by have := NY.out; omega⟩)
  have KY := Lib.hid k3
  clear e3 b3 s3 k3 kl
  have ST := Lib.hid (fun (Wo : World) (hW : LmAt Wo N s) => hW.hl.rd)
  have BN := Lib.hid (show Below w3.heap.size w3 w3.drew from below_draws (Below.refl _ _) 1)
  have st := ST.out _ (H3.out.keep BN.out)
  refine wp_region_held_drew (S := fun Wo => ∀ j, Wo.cell? ⟨N.l, j, none⟩ = (limC N s.al s.de s.ba)[j]?) (by kernel_rfl) st (fun hHeld => ?_)
  clear st
  refine wpAnyH_take (i := 0) (oi := ?_) (v := ?_) ?_ ?_ ?_ ?_ ?_ ?_ ?_ ?_
  rotate_left 2
  · simp only [List.getElem?_toArray, List.getElem?_cons_succ, List.getElem?_cons_zero]; rfl
  · kernel_rfl
  · kernel_rfl
  · kernel_rfl
  · exact fun _ _ _ h => h
  · refine Or.inl ⟨by rfl, ?_⟩
    intro w' hSw
    (try dsimp only at hSw)
    go_simp
    all_goals (with_reducible rfl)
  · assumption
  try simp only [Act.put, List.setIfInBounds_toArray, List.set_cons_zero, List.set_cons_succ]
  refine wpAnyH_take (i := 1) (oi := ?_) (v := ?_) ?_ ?_ ?_ ?_ ?_ ?_ ?_ ?_
  rotate_left 2
  · simp only [List.getElem?_toArray, List.getElem?_cons_succ, List.getElem?_cons_zero]; rfl
  · kernel_rfl
  · kernel_rfl
  · kernel_rfl
  · exact fun _ _ _ h => h
  · refine Or.inl ⟨by rfl, ?_⟩
    intro w' hSw
    (try dsimp only at hSw)
    go_simp
    all_goals (with_reducible rfl)
  · assumption
  try simp only [Act.put, List.setIfInBounds_toArray, List.set_cons_zero, List.set_cons_succ]
  refine wpAnyH_take (i := 2) (oi := ?_) (v := ?_) ?_ ?_ ?_ ?_ ?_ ?_ ?_ ?_
  rotate_left 2
  · simp only [List.getElem?_toArray, List.getElem?_cons_succ, List.getElem?_cons_zero]; rfl
  · kernel_rfl
  · kernel_rfl
  · kernel_rfl
  · exact fun _ _ _ h => h
  · refine Or.inl ⟨by rfl, ?_⟩
    intro w' hSw
    (try dsimp only at hSw)
    go_simp
    all_goals (with_reducible rfl)
  · assumption
  try simp only [Act.put, List.setIfInBounds_toArray, List.set_cons_zero, List.set_cons_succ]
  refine wpAnyH_take (i := 3) (oi := ?_) (v := ?_) ?_ ?_ ?_ ?_ ?_ ?_ ?_ ?_
  rotate_left 2
  · simp only [List.getElem?_toArray, List.getElem?_cons_succ, List.getElem?_cons_zero]; rfl
  · kernel_rfl
  · kernel_rfl
  · kernel_rfl
  · exact fun _ _ _ h => h
  · refine Or.inl ⟨by rfl, ?_⟩
    intro w' hSw
    (try dsimp only at hSw)
    go_simp
    all_goals (with_reducible rfl)
  · assumption
  try simp only [Act.put, List.setIfInBounds_toArray, List.set_cons_zero, List.set_cons_succ]
  refine wpAnyH_take (i := 5) (oi := ?_) (v := ?_) ?_ ?_ ?_ ?_ ?_ ?_ ?_ ?_
  rotate_left 2
  · simp only [List.getElem?_toArray, List.getElem?_cons_succ, List.getElem?_cons_zero]; rfl
  · kernel_rfl
  · kernel_rfl
  · kernel_rfl
  · exact fun _ _ _ h => h
  · refine Or.inl ⟨by rfl, ?_⟩
    intro w' hSw
    (try dsimp only at hSw)
    go_simp
    all_goals (with_reducible rfl)
  · assumption
  try simp only [Act.put, List.setIfInBounds_toArray, List.set_cons_zero, List.set_cons_succ]
  refine wpAnyH_take (i := 6) (oi := ?_) (v := ?_) ?_ ?_ ?_ ?_ ?_ ?_ ?_ ?_
  rotate_left 2
  · simp only [List.getElem?_toArray, List.getElem?_cons_succ, List.getElem?_cons_zero]; rfl
  · kernel_rfl
  · kernel_rfl
  · kernel_rfl
  · exact fun _ _ _ h => h
  · refine Or.inl ⟨by rfl, ?_⟩
    intro w' hSw
    (try dsimp only at hSw)
    go_simp
    all_goals (with_reducible rfl)
  · assumption
  try simp only [Act.put, List.setIfInBounds_toArray, List.set_cons_zero, List.set_cons_succ]
  refine wpAnyH_take (i := 7) (oi := ?_) (v := ?_) ?_ ?_ ?_ ?_ ?_ ?_ ?_ ?_
  rotate_left 2
  · simp only [List.getElem?_toArray, List.getElem?_cons_succ, List.getElem?_cons_zero]; rfl
  · kernel_rfl
  · kernel_rfl
  · kernel_rfl
  · exact fun _ _ _ h => h
  · refine Or.inl ⟨by rfl, ?_⟩
    intro w' hSw
    (try dsimp only at hSw)
    go_simp
    all_goals (with_reducible rfl)
  · assumption
  try simp only [Act.put, List.setIfInBounds_toArray, List.set_cons_zero, List.set_cons_succ]
  refine wpAnyH_take (i := 8) (oi := ?_) (v := ?_) ?_ ?_ ?_ ?_ ?_ ?_ ?_ ?_
  rotate_left 2
  · simp only [List.getElem?_toArray, List.getElem?_cons_succ, List.getElem?_cons_zero]; rfl
  · kernel_rfl
  · kernel_rfl
  · kernel_rfl
  · exact fun _ _ _ h => h
  · refine Or.inl ⟨by rfl, ?_⟩
    intro w' hSw
    (try dsimp only at hSw)
    go_simp
    all_goals (with_reducible rfl)
  · assumption
  try simp only [Act.put, List.setIfInBounds_toArray, List.set_cons_zero, List.set_cons_succ]
  refine wpAnyH_ready (rs := [4]) (by kernel_rfl) (by simp) ?_
  refine AllReadyH.cons (o := ?_) ?_ ?_ ?_
  rotate_left 1
  · simp only [List.getElem?_toArray, List.getElem?_cons_succ, List.getElem?_cons_zero]; rfl
  rotate_left 1
  · exact AllReadyH.nil
  intro K hK
  go_simp
  ((with_reducible refine (CL.out _ (H3.out.keep BN.out)).mono ?_); rintro e w4 ⟨rfl, be⟩; have N4 := Lib.hid (G.below_on BN.out be); clear be)
  refine hK.out _ _ (ST.out _ (H3.out.keep N4.out)) (fun hHeld => ?_)
  clear hK K
  try simp only [Act.put, List.setIfInBounds_toArray, List.set_cons_zero, List.set_cons_succ]
  refine wpAnyH_take (i := 10) (oi := ?_) (v := ?_) ?_ ?_ ?_ ?_ ?_ ?_ ?_ ?_
  rotate_left 2
  · simp only [List.getElem?_toArray, List.getElem?_cons_succ, List.getElem?_cons_zero]; rfl
  · kernel_rfl
  · kernel_rfl
  · kernel_rfl
  · exact fun _ _ _ h => h
  · refine Or.inl ⟨by rfl, ?_⟩
    intro w' hSw
    (try dsimp only at hSw)
    go_simp
    all_goals (with_reducible rfl)
  · assumption
  try simp only [Act.put, List.setIfInBounds_toArray, List.set_cons_zero, List.set_cons_succ]
  refine wpAnyH_ready (rs := [9]) (by kernel_rfl) (by simp) ?_
  refine AllReadyH.cons (o := ?_) ?_ ?_ ?_
  rotate_left 1
  · simp only [List.getElem?_toArray, List.getElem?_cons_succ, List.getElem?_cons_zero]; rfl
  rotate_left 1
  · exact AllReadyH.nil
  intro K hK
  go_simp
  ((with_reducible refine (CT.out _ (H3.out.keep N4.out)).mono ?_); rintro e w5 ⟨rfl, rfl⟩; have K5 := Lib.hid (KY.out.keep N4.out); have kw5 := K5.out.wr; have kr5 := K5.out.rd)
  refine hK.out _ _ (ST.out _ (H3.out.keep N4.out)) (fun hHeld => ?_)
  clear hK K
  try simp only [Act.put, List.setIfInBounds_toArray, List.set_cons_zero, List.set_cons_succ]
  refine wpAnyH_ready (rs := [11]) (by kernel_rfl) (by simp) ?_
  refine AllReadyH.cons (o := ?_) ?_ ?_ ?_
  rotate_left 1
  · simp only [List.getElem?_toArray, List.getElem?_cons_succ, List.getElem?_cons_zero]; rfl
  rotate_left 1
  · exact AllReadyH.nil
  intro K hK
  go_simp
  rw [setCell_obj K5.out]; simp only [List.setIfInBounds_toArray, List.set_cons_zero, List.set_cons_succ]; have f6 := Fr.setObj (F := fun k => k = yb) (Fr.refl _ w4) rfl (.cells #[.int .i64 s.al, .int .i64 s.de, .int .i64 s.ba, .int .i64 le, .int .i64 0] 47 (0, 0)); have k6 : Blk (setObj w4 yb (.cells #[.int .i64 s.al, .int .i64 s.de, .int .i64 s.ba, .int .i64 le, .int .i64 0] 47 (0, 0))) yb 47 #[.int .i64 s.al, .int .i64 s.de, .int .i64 s.ba, .int .i64 le, .int .i64 0] := setObj_at (lt_of_block K5.out) _; generalize setObj w4 yb (.cells #[.int .i64 s.al, .int .i64 s.de, .int .i64 s.ba, .int .i64 le, .int .i64 0] 47 (0, 0)) = w6 at f6 k6 ⊢; have H6 := Lib.hid ((H3.out.keep N4.out).fr f6 (fun k hk e => (NXY.out.1 k hk).2 e)); have F6 := Lib.hid f6; have K6 := Lib.hid k6; have kw6 := k6.wr; have kr6 := k6.rd; clear f6 k6 kw5 kr5
  refine hK.out _ _ (ST.out _ H6.out) (fun hHeld => ?_)
  clear hK K
  try simp only [Act.put, List.setIfInBounds_toArray, List.set_cons_zero, List.set_cons_succ]
  refine wpAnyH_take (i := 12) (oi := ?_) (v := ?_) ?_ ?_ ?_ ?_ ?_ ?_ ?_ ?_
  rotate_left 2
  · simp only [List.getElem?_toArray, List.getElem?_cons_succ, List.getElem?_cons_zero]; rfl
  · kernel_rfl
  · kernel_rfl
  · kernel_rfl
  · exact fun _ _ _ h => h
  · refine Or.inl ⟨by rfl, ?_⟩
    intro w' hSw
    (try dsimp only at hSw)
    go_simp
    all_goals (with_reducible rfl)
  · assumption
  try simp only [Act.put, List.setIfInBounds_toArray, List.set_cons_zero, List.set_cons_succ]
  refine wpAnyH_ready (rs := [13]) (by kernel_rfl) (by simp) ?_
  refine AllReadyH.cons (o := ?_) ?_ ?_ ?_
  rotate_left 1
  · simp only [List.getElem?_toArray, List.getElem?_cons_succ, List.getElem?_cons_zero]; rfl
  rotate_left 1
  · exact AllReadyH.nil
  intro K hK
  go_simp
  rw [setCell_obj K6.out]; simp only [List.setIfInBounds_toArray, List.set_cons_zero, List.set_cons_succ]; have f7 := Fr.setObj (F := fun k => k = yb) (Fr.refl _ w6) rfl (.cells #[.int .i64 s.al, .int .i64 s.de, .int .i64 s.ba, .int .i64 le, .int .i64 s.tot] 47 (0, 0)); have k7 : Blk (setObj w6 yb (.cells #[.int .i64 s.al, .int .i64 s.de, .int .i64 s.ba, .int .i64 le, .int .i64 s.tot] 47 (0, 0))) yb 47 #[.int .i64 s.al, .int .i64 s.de, .int .i64 s.ba, .int .i64 le, .int .i64 s.tot] := setObj_at (lt_of_block K6.out) _; generalize setObj w6 yb (.cells #[.int .i64 s.al, .int .i64 s.de, .int .i64 s.ba, .int .i64 le, .int .i64 s.tot] 47 (0, 0)) = w7 at f7 k7 ⊢; have H7 := Lib.hid (H6.out.fr f7 (fun k hk e => (NXY.out.1 k hk).2 e)); have F7 := Lib.hid (F6.out.trans f7); have K7 := Lib.hid k7; clear f7 k7 kw6 kr6
  refine hK.out _ _ (ST.out _ H7.out) (fun hHeld => ?_)
  clear hK K
  try simp only [Act.put, List.setIfInBounds_toArray, List.set_cons_zero, List.set_cons_succ]
  refine wpAnyH_done (by kernel_rfl) ?_ _
  clear hHeld
  have KX7 := Lib.hid ((KX.out.keep N4.out).fr F7.out NXY.out.2)
  have kx := KX7.out.rd
  have kw := KX7.out.wr
  have ky := K7.out.rd
  go_wp2
  rw [five_setC KX7.out]
  refine bodyPost_ret (results_cell_row rfl _ _ bx _ _ (0, 0) _ rfl (setObj_at (lt_of_block KX7.out) _) Tryz.underlying47 rfl (by kernel_rfl)) rfl ?_
  have b7 : Below w.heap.size w w7 := (below_in F3.out N4.out).trans (F7.out.below (below_in F3.out N4.out).size (fun k hk => by have := NY.out; omega))
  exact ⟨rfl, b7.trans ((Fr.setObj (F := fun k => k = bx) (Fr.refl _ _) rfl _).below b7.size (fun k hk => by have := HB.out; omega))⟩
end
end Go.Proofs.YtbgcpljekcagiaaGreat
/- The contracts of layer 12 (limiter): Top, Peek. -/
namespace Go.Proofs.YtbgcpljekcagiaaGreat
set_option linter.unusedSimpArgs false
set_option linter.unusedVariables false
set_option maxRecDepth 100000
open Go.ChangeShapes Go.WideShapes Go.ChangeAt Go.RowKit
open Ar (inR)
section
variable {N : LmN} {s : LmS}
/-- what a peek is told. -/
def LmS.peek (s : LmS) (N : LmN) (now held : Int) (key : ByteArray) (cost : Int) : Int × Int × Int :=
  if (refZ N now held cost).2 = true then (refZ N now held cost).1
  else match ({ s with r := ⟨max s.r.t now, s.r.num, s.r.F⟩ } : LmS).resi N now key with
    | some c => (if celW c N.U N.W N.B N.L now cost = 0 then 1 else 2, celR c N.U N.W N.B N.L now, celW c N.U N.W N.B N.L now cost)
    | none => (if waitR N.R ⟨max s.r.t now, s.r.num, s.r.F⟩ key cost = 0 then 1 else 2, ({ s with r := ⟨max s.r.t now, s.r.num, s.r.F⟩ } : LmS).left N key, waitR N.R ⟨max s.r.t now, s.r.num, s.r.F⟩ key cost)
/-- what a peek leaves: the ring's time. -/
def LmS.peeked (s : LmS) (N : LmN) (now held cost : Int) : LmS := if (refZ N now held cost).2 = true then s else { s with r := ⟨max s.r.t now, s.r.num, s.r.F⟩ }
end
end Go.Proofs.YtbgcpljekcagiaaGreat
/- The contracts of layer 12 (limiter): Check. -/
namespace Go.Proofs.YtbgcpljekcagiaaGreat
set_option linter.unusedSimpArgs false
set_option linter.unusedVariables false
set_option maxRecDepth 100000
open Go.ChangeShapes Go.WideShapes Go.ChangeAt Go.RowKit
open Ar (inR)
theorem Lm.own_less {w : World} {base base' : Nat} {e : TypeId} {size n : Nat} {v : Value} {xs : List Value} (h : w.ownsRow base e size v n xs) (hb : base' ≤ base) : w.ownsRow base' e size v n xs := by
  refine ⟨h.1, ?_⟩
  rcases h.2 with h0 | ⟨g, cap, cur, hv, hbg, h1⟩
  · exact Or.inl h0
  · exact Or.inr ⟨g, cap, cur, hv, Nat.le_trans hb hbg, h1⟩
section
variable {N : LmN} {s : LmS}
/-- a time has come, and a key was offered a cost. -/
def LmS.seen (s : LmS) (N : LmN) (now : Int) (key : ByteArray) (cost : Int) : LmS :=
  { s with r := ⟨max s.r.t now, s.r.num, s.r.F⟩, M := (offerM N.S.N.n s.M s.tot key cost).1, tot := (offerM N.S.N.n s.M s.tot key cost).2 }
/-- what a check leaves, answers and tells. -/
def LmS.check (s : LmS) (N : LmN) (now held : Int) (key : ByteArray) (cost : Int) : LmS × (Int × Int × Int) × List (ByteArray × Bool) :=
  if (refZ N now held cost).2 = true then (s.count (refZ N now held cost).1.1, (refZ N now held cost).1, [])
  else ((((s.seen N now key cost).adm N now key).1.judge N now key cost).2.count (((s.seen N now key cost).adm N now key).1.judge N now key cost).1.1, (((s.seen N now key cost).adm N now key).1.judge N now key cost).1, ((s.seen N now key cost).adm N now key).2)
theorem refZ_v (N : LmN) (now held cost : Int) (h : (refZ N now held cost).2 = true) : (refZ N now held cost).1.1 = 1 ∨ (refZ N now held cost).1.1 = 2 ∨ (refZ N now held cost).1.1 = 3 := by
  unfold refZ at *
  split
  · exact Or.inr (Or.inr rfl)
  · split
    · exact Or.inr (Or.inl rfl)
    · split
      · exact Or.inr (Or.inl rfl)
      · rename_i h1 h2 h3
        rw [if_neg h1, if_neg h2, if_neg h3] at h
        cases h
theorem refZ_no (N : LmN) (now held cost : Int) (h : (refZ N now held cost).2 = false) : (1 ≤ cost ∧ cost ≤ N.B) ∧ now < 4611686018427387904 := by
  unfold refZ at h
  by_cases h1 : cost < 1 ∨ N.B < cost
  · rw [if_pos h1] at h; cases h
  · rw [if_neg h1] at h
    by_cases h2 : 4611686018427387904 ≤ now
    · rw [if_pos h2] at h; cases h
    · omega
theorem judge_v (now : Int) (key : ByteArray) (cost : Int) : (s.judge N now key cost).1.1 = 1 ∨ (s.judge N now key cost).1.1 = 2 ∨ (s.judge N now key cost).1.1 = 3 := by
  unfold LmS.judge
  split
  · split
    · exact Or.inl rfl
    · exact Or.inr (Or.inl rfl)
  · split
    · exact Or.inl rfl
    · exact Or.inr (Or.inl rfl)
theorem judge_cnt (now : Int) (key : ByteArray) (cost : Int) : (s.judge N now key cost).2.al = s.al ∧ (s.judge N now key cost).2.de = s.de ∧ (s.judge N now key cost).2.ba = s.ba := by
  unfold LmS.judge
  split
  · split <;> exact ⟨rfl, rfl, rfl⟩
  · split <;> exact ⟨rfl, rfl, rfl⟩
theorem admit_cnt (now : Int) (key : ByteArray) : (s.adm N now key).1.al = s.al ∧ (s.adm N now key).1.de = s.de ∧ (s.adm N now key).1.ba = s.ba := by
  unfold LmS.adm
  split
  · exact ⟨rfl, rfl, rfl⟩
  · split
    · split <;> exact ⟨rfl, rfl, rfl⟩
    · exact ⟨rfl, rfl, rfl⟩
set_option maxHeartbeats 4000000 in
theorem lmcheck_any (now held : Int) (key : ByteArray) (cost : Int) (hs : key.size ≤ maxLen) (hn : inR now) (hh : inR held) (hc : inR cost) (w : World) (h : LmAt w N s)
    (hb : (0 ≤ s.al ∧ s.al ≤ 1152921504606846976) ∧ (0 ≤ s.de ∧ s.de ≤ 1152921504606846976) ∧ (0 ≤ s.ba ∧ s.ba ≤ 1152921504606846976))
    (hgo : (refZ N now held cost).2 = false → LmG N (s.seen N now key cost) now ∧ (∀ x ∈ (s.seen N now key cost).res N, x.1.size ≤ maxLen) ∧ LmG N ((s.seen N now key cost).adm N now key).1 now) :
    Calls Tryz.prog 24 #[.pointer (some ⟨N.l, 0, none⟩), .int .i64 now, .int .i64 held, .string key, .int .i64 cost] w fun e w' => ∃ v, e = .returned (.tuple #[ansT (s.check N now held key cost).2.1, v]) ∧
      w'.ownsRow w.heap.size 70 4 v (s.check N now held key cost).2.2.length (evL now (s.check N now held key cost).2.2) ∧ LmAt w' N (s.check N now held key cost).1 ∧ Fr N.all w w' := by
  obtain ⟨w1, hw1, k1, l1, s1⟩ := box_new w #[.int .i64 0, .int .i64 0, .int .i64 0] 40
  obtain ⟨bx, hbx⟩ : ∃ bx, bx = w.heap.size := ⟨_, rfl⟩
  have CR := Lib.hid (lmrefuse_any now held cost hn hh hc w1 (h.keep l1))
  have H1 := Lib.hid (h.keep l1)
  have HLT := Lib.hid (show ∀ k, N.all k → k < w.heap.size from fun k hk => h.lt k hk)
  rw [← hbx] at k1
  have K1 := Lib.hid k1
  have L1 := Lib.hid l1
  have HB := Lib.hid hbx
  have HCB := Lib.hid hb
  have ec : s.check N now held key cost = if (refZ N now held cost).2 = true then (s.count (refZ N now held cost).1.1, (refZ N now held cost).1, [])
      else ((((s.seen N now key cost).adm N now key).1.judge N now key cost).2.count (((s.seen N now key cost).adm N now key).1.judge N now key cost).1.1, (((s.seen N now key cost).adm N now key).1.judge N now key cost).1, ((s.seen N now key cost).adm N now key).2) := rfl
  rw [ec]
  have hrv := refZ_v N now held cost
  have hrn := refZ_no N now held cost
  obtain ⟨⟨⟨a0, a1, a2⟩, rf⟩, hr⟩ : ∃ x, x = refZ N now held cost := ⟨_, rfl⟩
  rw [← hr] at CR hrv hrn hgo ⊢
  clear hr ec k1 l1 s1 hb h
  dsimp only at hrv hrn hgo ⊢
  cases rf with
  | true =>
    have CC := Lib.hid (fun wx (hx : LmAt wx N s) => lmcount_any a0 a1 a2 (hrv rfl) HCB.out wx hx)
    simp only [if_true]
    clear hrv hrn hgo
    go_enter Tryz.func24, Tryz.ntmps24
    go_upto_region 1 with (fail)
    rw [← HB.out]
    clear hw1 hbx
    go_upto_region 2 with (go_at_call 42; ((with_reducible refine CR.out.mono ?_); rintro e w2 ⟨rfl, b2⟩; have B2 := Lib.hid b2; clear b2))
    obtain ⟨w3, e3, k3, b3, s3⟩ := box_new w2 #[.int .i64 a0, .int .i64 a1, .int .i64 a2] 40
    rw [e3]
    have H3 := Lib.hid ((H1.out.keep B2.out).keep b3)
    have KX := Lib.hid ((K1.out.keep B2.out).keep b3)
    have F3 := Lib.hid (show Below w.heap.size w w3 from below_in (below_in L1.out B2.out) b3)
    have NY := Lib.hid (show w.heap.size ≤ w2.heap.size ∧ bx < w2.heap.size from ⟨(below_in L1.out B2.out).size, by have := lt_of_block (K1.out.keep B2.out); omega⟩)
    generalize w2.heap.size = yb at k3 NY ⊢
    have KY := Lib.hid k3
    have k3r := k3.rd
    clear e3 b3 s3 k3
    go_wp2_with (go_at_call 55; ((with_reducible refine (CC.out _ H3.out).mono ?_); rintro e w4 ⟨rfl, h4, f4⟩; have H4 := Lib.hid h4; have F4 := Lib.hid f4; have KX4 := Lib.hid (KX.out.fr f4 (fun e => by have := HLT.out N.l (Or.inr rfl); have := HB.out; omega)); have KY4 := Lib.hid (KY.out.fr f4 (fun e => by have := HLT.out N.l (Or.inr rfl); have := NY.out; omega)); have ky := KY4.out.rd; have kx := KX4.out.rd; have kw := KX4.out.wr; clear h4 f4))
    rw [three_setC KX4.out]
    refine bodyPost_ret (results_rowT rfl _ _ bx _ _ (0, 0) _ rfl (setObj_at (lt_of_block KX4.out) _) Tryz.underlying40 rfl (by kernel_rfl)) rfl ?_
    refine ⟨_, rfl, World.ownsRow_nil _ _ _ _, H4.out.fr (Fr.setObj (F := fun k => k = bx) (Fr.refl _ _) rfl _) (fun k hk e => by have := HLT.out k hk; have := HB.out; omega), ?_⟩
    exact Fr.drop_new (F := N.all) (s := bx) (Fr.setObj (F := fun k => N.all k ∨ k = bx) ((Fr.of_below F3.out).trans (F4.out.mono (fun k hk => Or.inl (Or.inr hk)))) (Or.inr rfl) _) (by have := HB.out; omega)
  | false =>
    obtain ⟨g1, g2, g3⟩ := hgo rfl
    obtain ⟨hcb, hnow⟩ := hrn rfl
    simp only [Bool.false_eq_true, if_false]
    have CT := Lib.hid (fun wx (hx : LmAt wx N s) => rto_any now (by unfold inR at hn; omega) wx hx.hr)
    have CO := Lib.hid (fun wx (hx : LmAt wx N { s with r := ⟨max s.r.t now, s.r.num, s.r.F⟩ }) => smoffer_any key hs cost wx hx.hm)
    have CA := Lib.hid (fun wx (hx : LmAt wx N (s.seen N now key cost)) => lmadmit_any now key hs wx hx g1 g2)
    have hac := admit_cnt (s := s.seen N now key cost) (N := N) now key
    have HSE := Lib.hid (show (s.seen N now key cost) = { s with r := ⟨max s.r.t now, s.r.num, s.r.F⟩, M := (offerM N.S.N.n s.M s.tot key cost).1, tot := (offerM N.S.N.n s.M s.tot key cost).2 } from rfl)
    obtain ⟨⟨s3, ev⟩, hse⟩ : ∃ x, x = (s.seen N now key cost).adm N now key := ⟨_, rfl⟩
    rw [← hse] at CA hac g3 ⊢
    clear hse
    dsimp only at hac g3 ⊢
    have CJ := Lib.hid (fun wx (hx : LmAt wx N s3) => lmjudge_any now key cost hs hcb wx hx g3)
    have hjv := judge_v (N := N) (s := s3) now key cost
    have hjc := judge_cnt (N := N) (s := s3) now key cost
    obtain ⟨⟨⟨v0, v1, v2⟩, s4⟩, hsj⟩ : ∃ x, x = s3.judge N now key cost := ⟨_, rfl⟩
    rw [← hsj] at CJ hjv hjc ⊢
    clear hsj
    dsimp only at hjv hjc ⊢
    have e1 : s.al = s4.al ∧ s.de = s4.de ∧ s.ba = s4.ba := ⟨(hjc.1.trans hac.1).symm, (hjc.2.1.trans hac.2.1).symm, (hjc.2.2.trans hac.2.2).symm⟩
    have CC := Lib.hid (fun wx (hx : LmAt wx N s4) => lmcount_any v0 v1 v2 hjv (by have := HCB.out; rw [e1.1, e1.2.1, e1.2.2] at this; exact this) wx hx)
    clear hrv hjv hjc hac e1 g1 g2 g3 hgo hrn
    go_enter Tryz.func24, Tryz.ntmps24
    go_upto_region 1 with (fail)
    rw [← HB.out]
    clear hw1 hbx
    go_upto_region 2 with (go_at_call 42; ((with_reducible refine CR.out.mono ?_); rintro e w2 ⟨rfl, b2⟩; have B2 := Lib.hid b2; clear b2))
    obtain ⟨w3, e3, k3, b3, s3'⟩ := box_new w2 #[.int .i64 a0, .int .i64 a1, .int .i64 a2] 40
    rw [e3]
    have H3 := Lib.hid ((H1.out.keep B2.out).keep b3)
    have KX := Lib.hid ((K1.out.keep B2.out).keep b3)
    have F3 := Lib.hid (show Below w.heap.size w w3 from below_in (below_in L1.out B2.out) b3)
    have NY := Lib.hid (show w.heap.size ≤ w2.heap.size ∧ bx < w2.heap.size from ⟨(below_in L1.out B2.out).size, by have := lt_of_block (K1.out.keep B2.out); omega⟩)
    generalize w2.heap.size = yb at k3 NY ⊢
    have KY := Lib.hid k3
    have NXY := Lib.hid (show (∀ k, N.all k → k ≠ bx ∧ k ≠ yb) ∧ bx ≠ yb from ⟨fun k hk => by have := HLT.out k hk; have := HB.out; have := NY.out; omega, by have := NY.out; omega⟩)
    have kl := H3.out.hl.rd
    clear e3 b3 s3' k3
    go_upto_region 8 with (first
      | (go_at_call 43; ((with_reducible refine (CT.out _ H3.out).mono ?_); rintro e w4 ⟨rfl, r4, f4⟩; have H4 := Lib.hid (H3.out.ring r4 f4 (fun k hk => Or.inl (Or.inl hk))); have F4 := Lib.hid (show Fr N.all w3 w4 from f4.mono (fun k hk => Or.inl (Or.inr (Or.inl (Or.inl (Or.inl hk)))))); have kl4 := H4.out.hl.rd; clear r4 f4))
      | (go_at_call 56; ((with_reducible refine (CO.out _ H4.out).mono ?_); rintro e w5 ⟨rfl, m5, f5⟩; have H5 := Lib.hid (show LmAt w5 N (s.seen N now key cost) from by rw [HSE.out]; exact H4.out.summ m5 f5 (fun k hk => Or.inl hk)); have F5 := Lib.hid (F4.out.trans (f5.mono (fun k hk => show N.all k from Or.inl (Or.inr (Or.inr (Or.inl hk)))))); clear m5 f5))
      | (go_at_call 57; ((with_reducible refine (CA.out _ H5.out).mono ?_); rintro e w6 ⟨ve, rfl, o6, h6, f6⟩; have H6 := Lib.hid h6; have O6 := Lib.hid o6; have F6 := Lib.hid (F5.out.trans (f6.mono (fun k hk => show N.all k from Or.inl hk))); have S6 := Lib.hid (show w.heap.size ≤ w5.heap.size from Nat.le_trans F3.out.size F5.out.size); clear h6 o6 f6)))
    have KX6 := Lib.hid (KX.out.fr F6.out (fun hk => (NXY.out.1 _ hk).1 rfl))
    have KY6 := Lib.hid (KY.out.fr F6.out (fun hk => (NXY.out.1 _ hk).2 rfl))
    have HYL := Lib.hid (show yb < w5.heap.size ∧ bx < w5.heap.size from ⟨Nat.lt_of_lt_of_le (lt_of_block KY.out) F5.out.size, Nat.lt_of_lt_of_le (lt_of_block KX.out) F5.out.size⟩)
    clear kl kl4
    go_upto_region 9 with (go_at_call 58; ((with_reducible refine (CJ.out _ H6.out).mono ?_); rintro e w7 ⟨rfl, h7, f7⟩; have H7 := Lib.hid h7; have O7 := Lib.hid (Lm.own_fr O6.out f7 (fun k hk => by have := HLT.out k hk; have := S6.out; omega)); have F7 := Lib.hid (F6.out.trans f7); have KX7 := Lib.hid (KX6.out.fr f7 (fun hk => (NXY.out.1 _ hk).1 rfl)); have KY7 := Lib.hid (KY6.out.fr f7 (fun hk => (NXY.out.1 _ hk).2 rfl)); have kyr := KY7.out.rd; have kyw := KY7.out.wr; clear h7 f7))
    rw [three_setC KY7.out]
    have f8 : Fr (fun k => k = yb) w7 (setObj w7 yb (.cells #[.int .i64 v0, .int .i64 v1, .int .i64 v2] 40 (0, 0))) := Fr.setObj (F := fun k => k = yb) (Fr.refl _ _) rfl _
    have k8 : Blk (setObj w7 yb (.cells #[.int .i64 v0, .int .i64 v1, .int .i64 v2] 40 (0, 0))) yb 40 #[.int .i64 v0, .int .i64 v1, .int .i64 v2] := setObj_at (lt_of_block KY7.out) _
    clear kyr kyw
    change Code.wp _ _ _ _ (setObj w7 yb (.cells #[.int .i64 v0, .int .i64 v1, .int .i64 v2] 40 (0, 0)))
    generalize setObj w7 yb (.cells #[.int .i64 v0, .int .i64 v1, .int .i64 v2] 40 (0, 0)) = w8 at f8 k8 ⊢
    have H8 := Lib.hid (H7.out.fr f8 (fun k hk e => (NXY.out.1 k hk).2 e))
    have KX8 := Lib.hid (KX7.out.fr f8 NXY.out.2)
    have KY8 := Lib.hid k8
    have O8 := Lib.hid (Lm.own_fr O7.out f8 (fun k hk => by rw [hk]; exact HYL.out.1))
    have F8 := Lib.hid (show Fr (fun k => N.all k ∨ k = yb) w3 w8 from (F7.out.mono (fun k hk => Or.inl hk)).trans (f8.mono (fun k hk => Or.inr hk)))
    have k8r := k8.rd
    clear f8 k8
    go_wp2_with (go_at_call 55; ((with_reducible refine (CC.out _ H8.out).mono ?_); rintro e w9 ⟨rfl, h9, f9⟩; have H9 := Lib.hid h9; have O9 := Lib.hid (Lm.own_fr O8.out f9 (fun k hk => by have := HLT.out N.l (Or.inr rfl); have := S6.out; rw [hk]; omega)); have F9 := Lib.hid (F8.out.trans (f9.mono (fun k hk => show N.all k ∨ k = yb from Or.inl (Or.inr hk)))); have KX9 := Lib.hid (KX8.out.fr f9 (fun e => (NXY.out.1 N.l (Or.inr rfl)).1 e.symm)); have KY9 := Lib.hid (KY8.out.fr f9 (fun e => (NXY.out.1 N.l (Or.inr rfl)).2 e.symm)); have ky := KY9.out.rd; have kx := KX9.out.rd; have kw := KX9.out.wr; clear h9 f9))
    rw [three_setC KX9.out]
    refine bodyPost_ret (results_rowT rfl _ _ bx _ _ (0, 0) _ rfl (setObj_at (lt_of_block KX9.out) _) Tryz.underlying40 rfl (by kernel_rfl)) rfl ?_
    have fe := Fr.setObj (F := fun k => k = bx) (Fr.refl _ w9) rfl (.cells #[.int .i64 v0, .int .i64 v1, .int .i64 v2] 40 (0, 0))
    refine ⟨_, rfl, Lm.own_less (Lm.own_fr O9.out fe (fun k hk => by rw [hk]; exact HYL.out.2)) S6.out, H9.out.fr fe (fun k hk e => (NXY.out.1 k hk).1 e), ?_⟩
    refine Fr.drop_new (F := N.all) (s := bx) (Fr.drop_new (F := fun k => N.all k ∨ k = bx) (s := yb) (((Fr.of_below F3.out).mono (fun k (hk : False) => hk.elim)).trans ((F9.out.mono (fun k hk => ?_)).trans (fe.mono (fun k hk => Or.inl (Or.inr hk))))) (by have := NY.out; omega)) (by have := HB.out; omega)
    rcases hk with hk | hk
    · exact Or.inl (Or.inl hk)
    · exact Or.inr hk
end
end Go.Proofs.YtbgcpljekcagiaaGreat
/- The contracts of layer 12 (limiter): Peek. -/
namespace Go.Proofs.YtbgcpljekcagiaaGreat
set_option linter.unusedSimpArgs false
set_option linter.unusedVariables false
set_option maxRecDepth 100000
open Go.ChangeShapes Go.WideShapes Go.ChangeAt Go.RowKit
open Ar (inR)
section
variable {N : LmN} {s : LmS}
set_option maxHeartbeats 4000000 in
theorem lmpeek_any (now held : Int) (key : ByteArray) (cost : Int) (hs : key.size ≤ maxLen) (hn : inR now) (hh : inR held) (hc : inR cost) (w : World) (h : LmAt w N s)
    (hgo : (refZ N now held cost).2 = false → LmG N { s with r := ⟨max s.r.t now, s.r.num, s.r.F⟩ } now ∧ ∀ c, ({ s with r := ⟨max s.r.t now, s.r.num, s.r.F⟩ } : LmS).resi N now key = some c → celG c N.U N.W N.B N.L now) :
    Calls Tryz.prog 22 #[.pointer (some ⟨N.l, 0, none⟩), .int .i64 now, .int .i64 held, .string key, .int .i64 cost] w fun e w' => e = .returned (ansT (s.peek N now held key cost)) ∧ LmAt w' N (s.peeked N now held cost) ∧ Fr N.parts w w' := by
  obtain ⟨w1, hw1, k1, l1, s1⟩ := box_new w #[.int .i64 0, .int .i64 0, .int .i64 0] 40
  obtain ⟨bx, hbx⟩ : ∃ bx, bx = w.heap.size := ⟨_, rfl⟩
  have CR := Lib.hid (lmrefuse_any now held cost hn hh hc w1 (h.keep l1))
  have H1 := Lib.hid (h.keep l1)
  have HLT := Lib.hid (show ∀ k, N.all k → k < w.heap.size from fun k hk => h.lt k hk)
  rw [← hbx] at k1
  have K1 := Lib.hid k1
  have L1 := Lib.hid l1
  have HB := Lib.hid hbx
  have kx1 := k1.rd
  have kw1 := k1.wr
  have hrn := refZ_no N now held cost
  unfold LmS.peek LmS.peeked
  obtain ⟨⟨⟨a0, a1, a2⟩, rf⟩, hr⟩ : ∃ x, x = refZ N now held cost := ⟨_, rfl⟩
  rw [← hr] at CR hrn hgo ⊢
  clear hr k1 l1 s1 h
  dsimp only at hrn hgo ⊢
  cases rf with
  | true =>
    simp only [if_true]
    clear hrn hgo
    go_enter Tryz.func22, Tryz.ntmps22
    go_upto_region 1 with (fail)
    rw [← HB.out]
    clear hw1 hbx
    go_upto_region 2 with (go_at_call 42; ((with_reducible refine CR.out.mono ?_); rintro e w2 ⟨rfl, b2⟩; have B2 := Lib.hid b2; clear b2 kx1 kw1))
    obtain ⟨w3, e3, k3, b3, s3⟩ := box_new w2 #[.int .i64 a0, .int .i64 a1, .int .i64 a2] 40
    rw [e3]
    have H3 := Lib.hid ((H1.out.keep B2.out).keep b3)
    have KX := Lib.hid ((K1.out.keep B2.out).keep b3)
    have F3 := Lib.hid (show Below w.heap.size w w3 from below_in (below_in L1.out B2.out) b3)
    generalize w2.heap.size = yb at k3 ⊢
    have k3r := k3.rd
    have kx := KX.out.rd
    have kw := KX.out.wr
    clear e3 b3 s3 k3
    go_wp2
    rw [three_setC KX.out]
    refine bodyPost_ret (results_cell_row rfl _ _ bx _ _ (0, 0) _ rfl (setObj_at (lt_of_block KX.out) _) Tryz.underlying40 rfl (by kernel_rfl)) rfl ?_
    refine ⟨rfl, H3.out.fr (Fr.setObj (F := fun k => k = bx) (Fr.refl _ _) rfl _) (fun k hk e => by have := HLT.out k hk; have := HB.out; omega), ?_⟩
    exact Fr.drop_new (F := N.parts) (s := bx) (Fr.setObj (F := fun k => N.parts k ∨ k = bx) ((Fr.of_below F3.out).mono (fun k (hk : False) => hk.elim)) (Or.inr rfl) _) (by have := HB.out; omega)
  | false =>
    obtain ⟨g1, g2⟩ := hgo rfl
    obtain ⟨hcb, hnow⟩ := hrn rfl
    simp only [Bool.false_eq_true, if_false]
    have CT := Lib.hid (fun wx (hx : LmAt wx N s) => rto_any now (by unfold inR at hn; omega) wx hx.hr)
    have CS := Lib.hid (fun wx (hx : LmAt wx N { s with r := ⟨max s.r.t now, s.r.num, s.r.F⟩ }) => lmresident_any now key hs wx hx g1)
    clear hgo hrn
    cases hres : ({ s with r := ⟨max s.r.t now, s.r.num, s.r.F⟩ } : LmS).resi N now key with
    | none =>
      rw [hres] at CS
      have CL := Lib.hid (fun wx (hx : LmAt wx N { s with r := ⟨max s.r.t now, s.r.num, s.r.F⟩ }) => lmleft_any key hs wx hx (by have := g1.L; omega) (by unfold inR; have := g1.B; omega))
      have CW7 := Lib.hid (fun wx (hx : LmAt wx N { s with r := ⟨max s.r.t now, s.r.num, s.r.F⟩ }) => rwait_any key hs cost (by have := g1.B; omega) wx hx.hr (RgS.now_le _ N.R hx.hr.bd.2.1.1 ⟨hx.hr.ht.1, g1.t⟩))
      dsimp only at CW7 ⊢
      obtain ⟨rm, hrm⟩ : ∃ rm, rm = ({ s with r := ⟨max s.r.t now, s.r.num, s.r.F⟩ } : LmS).left N key := ⟨_, rfl⟩
      obtain ⟨wt, hwt⟩ : ∃ wt, wt = waitR N.R ⟨max s.r.t now, s.r.num, s.r.F⟩ key cost := ⟨_, rfl⟩
      rw [← hrm] at CL
      rw [← hwt] at CW7
      simp only [← hrm, ← hwt]
      clear hrm hwt hres g1 g2
      go_enter Tryz.func22, Tryz.ntmps22
      go_upto_region 1 with (fail)
      rw [← HB.out]
      clear hw1 hbx
      go_upto_region 2 with (go_at_call 42; ((with_reducible refine CR.out.mono ?_); rintro e w2 ⟨rfl, b2⟩; have B2 := Lib.hid b2; clear b2 kx1 kw1))
      obtain ⟨w3, e3, k3, b3, s3⟩ := box_new w2 #[.int .i64 a0, .int .i64 a1, .int .i64 a2] 40
      rw [e3]
      have H3 := Lib.hid ((H1.out.keep B2.out).keep b3)
      have KX := Lib.hid ((K1.out.keep B2.out).keep b3)
      have F3 := Lib.hid (show Below w.heap.size w w3 from below_in (below_in L1.out B2.out) b3)
      have NY := Lib.hid (show w.heap.size ≤ w2.heap.size ∧ bx < w2.heap.size from ⟨(below_in L1.out B2.out).size, by have := lt_of_block (K1.out.keep B2.out); omega⟩)
      generalize w2.heap.size = yb at k3 NY ⊢
      have KY := Lib.hid k3
      have NXY := Lib.hid (show (∀ k, N.all k → k ≠ bx ∧ k ≠ yb) ∧ bx ≠ yb from ⟨fun k hk => by have := HLT.out k hk; have := HB.out; have := NY.out; omega, by have := NY.out; omega⟩)
      have kl := H3.out.hl.rd
      clear e3 b3 s3 k3
      go_upto_region 6 with (first
        | (go_at_call 43; ((with_reducible refine (CT.out _ H3.out).mono ?_); rintro e w4 ⟨rfl, r4, f4⟩; have H4 := Lib.hid (H3.out.ring r4 f4 (fun k hk => Or.inl (Or.inl hk))); have F4 := Lib.hid (show Fr N.parts w3 w4 from f4.mono (fun k hk => Or.inr (Or.inl (Or.inl (Or.inl hk))))); clear r4 f4))
        | (go_at_call 44; ((with_reducible refine (CS.out _ H4.out).mono ?_); rintro e w5 ⟨rfl, b5⟩; have H5 := Lib.hid (H4.out.keep b5); have F5 := Lib.hid (F4.out.trans (Fr.of_below b5)); simp only [resV]; clear b5)))
      obtain ⟨w6, e6, k6, b6, s6⟩ := box_new w5 #[.int .i64 0, .int .i64 0, .int .i64 0, .int .i64 0] 64
      rw [e6]
      have H6 := Lib.hid (H5.out.keep b6)
      have F6 := Lib.hid (F5.out.trans (Fr.of_below b6))
      have KX6 := Lib.hid (KX.out.fr F6.out (fun hk => (NXY.out.1 _ (Or.inl hk)).1 rfl))
      have KY6 := Lib.hid (KY.out.fr F6.out (fun hk => (NXY.out.1 _ (Or.inl hk)).2 rfl))
      have NZ := Lib.hid (show yb < w5.heap.size from Nat.lt_of_lt_of_le (lt_of_block KY.out) F5.out.size)
      generalize w5.heap.size = zb at k6 NZ ⊢
      have KZ := Lib.hid k6
      clear e6 b6 s6 k6 kl
      go_upto_region 8 with (fail)
      have ST := Lib.hid (fun (Wo : World) (hW : LmAt Wo N { s with r := ⟨max s.r.t now, s.r.num, s.r.F⟩ }) => show ∀ (j : Nat), Wo.cell? ⟨N.l, j, none⟩ = (limC N s.al s.de s.ba)[j]? from hW.hl.rd)
      have BN := Lib.hid (show Below w6.heap.size w6 w6.drew from below_draws (Below.refl _ _) 1)
      have st := ST.out _ (H6.out.keep BN.out)
      refine wp_region_held_drew (S := fun Wo => ∀ j, Wo.cell? ⟨N.l, j, none⟩ = (limC N s.al s.de s.ba)[j]?) (by kernel_rfl) st (fun hHeld => ?_)
      clear st
      refine wpAnyH_take (i := 0) (oi := ?_) (v := ?_) ?_ ?_ ?_ ?_ ?_ ?_ ?_ ?_
      rotate_left 2
      · simp only [List.getElem?_toArray, List.getElem?_cons_succ, List.getElem?_cons_zero]; rfl
      · kernel_rfl
      · kernel_rfl
      · kernel_rfl
      · exact fun _ _ _ h => h
      · refine Or.inl ⟨by rfl, ?_⟩
        intro w' hSw
        (try dsimp only at hSw)
        go_simp
        all_goals (with_reducible rfl)
      · assumption
      try simp only [Act.put, List.setIfInBounds_toArray, List.set_cons_zero, List.set_cons_succ]
      refine wpAnyH_take (i := 1) (oi := ?_) (v := ?_) ?_ ?_ ?_ ?_ ?_ ?_ ?_ ?_
      rotate_left 2
      · simp only [List.getElem?_toArray, List.getElem?_cons_succ, List.getElem?_cons_zero]; rfl
      · kernel_rfl
      · kernel_rfl
      · kernel_rfl
      · exact fun _ _ _ h => h
      · refine Or.inl ⟨by rfl, ?_⟩
        intro w' hSw
        (try dsimp only at hSw)
        go_simp
        all_goals (with_reducible rfl)
      · assumption
      try simp only [Act.put, List.setIfInBounds_toArray, List.set_cons_zero, List.set_cons_succ]
      refine wpAnyH_take (i := 3) (oi := ?_) (v := ?_) ?_ ?_ ?_ ?_ ?_ ?_ ?_ ?_
      rotate_left 2
      · simp only [List.getElem?_toArray, List.getElem?_cons_succ, List.getElem?_cons_zero]; rfl
      · kernel_rfl
      · kernel_rfl
      · kernel_rfl
      · exact fun _ _ _ h => h
      · refine Or.inl ⟨by rfl, ?_⟩
        intro w' hSw
        (try dsimp only at hSw)
        go_simp
        all_goals (with_reducible rfl)
      · assumption
      try simp only [Act.put, List.setIfInBounds_toArray, List.set_cons_zero, List.set_cons_succ]
      refine wpAnyH_take (i := 4) (oi := ?_) (v := ?_) ?_ ?_ ?_ ?_ ?_ ?_ ?_ ?_
      rotate_left 2
      · simp only [List.getElem?_toArray, List.getElem?_cons_succ, List.getElem?_cons_zero]; rfl
      · kernel_rfl
      · kernel_rfl
      · kernel_rfl
      · exact fun _ _ _ h => h
      · refine Or.inl ⟨by rfl, ?_⟩
        intro w' hSw
        (try dsimp only at hSw)
        go_simp
        all_goals (with_reducible rfl)
      · assumption
      try simp only [Act.put, List.setIfInBounds_toArray, List.set_cons_zero, List.set_cons_succ]
      refine wpAnyH_take (i := 5) (oi := ?_) (v := ?_) ?_ ?_ ?_ ?_ ?_ ?_ ?_ ?_
      rotate_left 2
      · simp only [List.getElem?_toArray, List.getElem?_cons_succ, List.getElem?_cons_zero]; rfl
      · kernel_rfl
      · kernel_rfl
      · kernel_rfl
      · exact fun _ _ _ h => h
      · refine Or.inl ⟨by rfl, ?_⟩
        intro w' hSw
        (try dsimp only at hSw)
        go_simp
        all_goals (with_reducible rfl)
      · assumption
      try simp only [Act.put, List.setIfInBounds_toArray, List.set_cons_zero, List.set_cons_succ]
      refine wpAnyH_take (i := 6) (oi := ?_) (v := ?_) ?_ ?_ ?_ ?_ ?_ ?_ ?_ ?_
      rotate_left 2
      · simp only [List.getElem?_toArray, List.getElem?_cons_succ, List.getElem?_cons_zero]; rfl
      · kernel_rfl
      · kernel_rfl
      · kernel_rfl
      · exact fun _ _ _ h => h
      · refine Or.inl ⟨by rfl, ?_⟩
        intro w' hSw
        (try dsimp only at hSw)
        go_simp
        all_goals (with_reducible rfl)
      · assumption
      try simp only [Act.put, List.setIfInBounds_toArray, List.set_cons_zero, List.set_cons_succ]
      refine wpAnyH_take (i := 7) (oi := ?_) (v := ?_) ?_ ?_ ?_ ?_ ?_ ?_ ?_ ?_
      rotate_left 2
      · simp only [List.getElem?_toArray, List.getElem?_cons_succ, List.getElem?_cons_zero]; rfl
      · kernel_rfl
      · kernel_rfl
      · kernel_rfl
      · exact fun _ _ _ h => h
      · refine Or.inl ⟨by rfl, ?_⟩
        intro w' hSw
        (try dsimp only at hSw)
        go_simp
        all_goals (with_reducible rfl)
      · assumption
      try simp only [Act.put, List.setIfInBounds_toArray, List.set_cons_zero, List.set_cons_succ]
      refine wpAnyH_take (i := 8) (oi := ?_) (v := ?_) ?_ ?_ ?_ ?_ ?_ ?_ ?_ ?_
      rotate_left 2
      · simp only [List.getElem?_toArray, List.getElem?_cons_succ, List.getElem?_cons_zero]; rfl
      · kernel_rfl
      · kernel_rfl
      · kernel_rfl
      · exact fun _ _ _ h => h
      · refine Or.inl ⟨by rfl, ?_⟩
        intro w' hSw
        (try dsimp only at hSw)
        go_simp
        all_goals (with_reducible rfl)
      · assumption
      try simp only [Act.put, List.setIfInBounds_toArray, List.set_cons_zero, List.set_cons_succ]
      refine wpAnyH_ready (rs := [2]) (by kernel_rfl) (by simp) ?_
      refine AllReadyH.cons (o := ?_) ?_ ?_ ?_
      rotate_left 1
      · simp only [List.getElem?_toArray, List.getElem?_cons_succ, List.getElem?_cons_zero]; rfl
      rotate_left 1
      · exact AllReadyH.nil
      intro K hK
      go_simp
      ((with_reducible refine (CL.out _ (H6.out.keep BN.out)).mono ?_); rintro e w7 ⟨rfl, be⟩; have N6 := Lib.hid (G.below_on BN.out be); clear be)
      refine hK.out _ _ (ST.out _ (H6.out.keep N6.out)) (fun hHeld => ?_)
      clear hK K
      try simp only [Act.put, List.setIfInBounds_toArray, List.set_cons_zero, List.set_cons_succ]
      refine wpAnyH_take (i := 10) (oi := ?_) (v := ?_) ?_ ?_ ?_ ?_ ?_ ?_ ?_ ?_
      rotate_left 2
      · simp only [List.getElem?_toArray, List.getElem?_cons_succ, List.getElem?_cons_zero]; rfl
      · kernel_rfl
      · kernel_rfl
      · kernel_rfl
      · exact fun _ _ _ h => h
      · refine Or.inl ⟨by rfl, ?_⟩
        intro w' hSw
        (try dsimp only at hSw)
        go_simp
        all_goals (with_reducible rfl)
      · assumption
      try simp only [Act.put, List.setIfInBounds_toArray, List.set_cons_zero, List.set_cons_succ]
      refine wpAnyH_ready (rs := [9]) (by kernel_rfl) (by simp) ?_
      refine AllReadyH.cons (o := ?_) ?_ ?_ ?_
      rotate_left 1
      · simp only [List.getElem?_toArray, List.getElem?_cons_succ, List.getElem?_cons_zero]; rfl
      rotate_left 1
      · exact AllReadyH.nil
      intro K hK
      go_simp
      ((with_reducible refine (CW7.out _ (H6.out.keep N6.out)).mono ?_); rintro e w8 ⟨rfl, be⟩; have N14 := Lib.hid (G.below_on N6.out be); have K8 := Lib.hid (KY6.out.keep N14.out); have kw8 := K8.out.wr; have kr8 := K8.out.rd; clear be)
      refine hK.out _ _ (ST.out _ (H6.out.keep N14.out)) (fun hHeld => ?_)
      clear hK K
      try simp only [Act.put, List.setIfInBounds_toArray, List.set_cons_zero, List.set_cons_succ]
      refine wpAnyH_ready (rs := [11]) (by kernel_rfl) (by simp) ?_
      refine AllReadyH.cons (o := ?_) ?_ ?_ ?_
      rotate_left 1
      · simp only [List.getElem?_toArray, List.getElem?_cons_succ, List.getElem?_cons_zero]; rfl
      rotate_left 1
      · exact AllReadyH.nil
      intro K hK
      go_simp
      rw [setCell_obj K8.out]; simp only [List.setIfInBounds_toArray, List.set_cons_zero, List.set_cons_succ]; have f9 := Fr.setObj (F := fun k => k = yb) (Fr.refl _ w8) rfl (.cells #[.int .i64 a0, .int .i64 rm, .int .i64 a2] 40 (0, 0)); have k9 : Blk (setObj w8 yb (.cells #[.int .i64 a0, .int .i64 rm, .int .i64 a2] 40 (0, 0))) yb 40 #[.int .i64 a0, .int .i64 rm, .int .i64 a2] := setObj_at (lt_of_block K8.out) _; generalize setObj w8 yb (.cells #[.int .i64 a0, .int .i64 rm, .int .i64 a2] 40 (0, 0)) = w9 at f9 k9 ⊢; have H9 := Lib.hid ((H6.out.keep N14.out).fr f9 (fun k hk e => (NXY.out.1 k hk).2 e)); have F9 := Lib.hid f9; have K9 := Lib.hid k9; have kw9 := k9.wr; have kr9 := k9.rd; clear f9 k9 kw8 kr8
      refine hK.out _ _ (ST.out _ H9.out) (fun hHeld => ?_)
      clear hK K
      try simp only [Act.put, List.setIfInBounds_toArray, List.set_cons_zero, List.set_cons_succ]
      refine wpAnyH_take (i := 12) (oi := ?_) (v := ?_) ?_ ?_ ?_ ?_ ?_ ?_ ?_ ?_
      rotate_left 2
      · simp only [List.getElem?_toArray, List.getElem?_cons_succ, List.getElem?_cons_zero]; rfl
      · kernel_rfl
      · kernel_rfl
      · kernel_rfl
      · exact fun _ _ _ h => h
      · refine Or.inl ⟨by rfl, ?_⟩
        intro w' hSw
        (try dsimp only at hSw)
        go_simp
        all_goals (with_reducible rfl)
      · assumption
      try simp only [Act.put, List.setIfInBounds_toArray, List.set_cons_zero, List.set_cons_succ]
      refine wpAnyH_ready (rs := [13]) (by kernel_rfl) (by simp) ?_
      refine AllReadyH.cons (o := ?_) ?_ ?_ ?_
      rotate_left 1
      · simp only [List.getElem?_toArray, List.getElem?_cons_succ, List.getElem?_cons_zero]; rfl
      rotate_left 1
      · exact AllReadyH.nil
      intro K hK
      go_simp
      rw [setCell_obj K9.out]; simp only [List.setIfInBounds_toArray, List.set_cons_zero, List.set_cons_succ]; have f10 := Fr.setObj (F := fun k => k = yb) (Fr.refl _ w9) rfl (.cells #[.int .i64 a0, .int .i64 rm, .int .i64 wt] 40 (0, 0)); have k10 : Blk (setObj w9 yb (.cells #[.int .i64 a0, .int .i64 rm, .int .i64 wt] 40 (0, 0))) yb 40 #[.int .i64 a0, .int .i64 rm, .int .i64 wt] := setObj_at (lt_of_block K9.out) _; generalize setObj w9 yb (.cells #[.int .i64 a0, .int .i64 rm, .int .i64 wt] 40 (0, 0)) = w10 at f10 k10 ⊢; have H10 := Lib.hid (H9.out.fr f10 (fun k hk e => (NXY.out.1 k hk).2 e)); have F10 := Lib.hid (F9.out.trans f10); have K10 := Lib.hid k10; clear f10 k10 kw9 kr9
      refine hK.out _ _ (ST.out _ H10.out) (fun hHeld => ?_)
      clear hK K
      try simp only [Act.put, List.setIfInBounds_toArray, List.set_cons_zero, List.set_cons_succ]
      refine wpAnyH_done (by kernel_rfl) ?_ _
      clear hHeld
      have KX10 := Lib.hid ((KX6.out.keep N14.out).fr F10.out NXY.out.2)
      have k10r := K10.out.rd
      have k10w := K10.out.wr
      go_upto_region 10 with (fail)
      rw [setCell_obj K10.out]
      simp only [List.setIfInBounds_toArray, List.set_cons_zero, List.set_cons_succ]
      have f11 := Fr.setObj (F := fun k => k = yb) (Fr.refl _ w10) rfl (.cells #[.int .i64 2, .int .i64 rm, .int .i64 wt] 40 (0, 0))
      have k11 : Blk (setObj w10 yb (.cells #[.int .i64 2, .int .i64 rm, .int .i64 wt] 40 (0, 0))) yb 40 #[.int .i64 2, .int .i64 rm, .int .i64 wt] := setObj_at (lt_of_block K10.out) _
      generalize setObj w10 yb (.cells #[.int .i64 2, .int .i64 rm, .int .i64 wt] 40 (0, 0)) = w11 at f11 k11 ⊢
      have H11 := Lib.hid (H10.out.fr f11 (fun k hk e => (NXY.out.1 k hk).2 e))
      have F11 := Lib.hid (F10.out.trans f11)
      have KX11 := Lib.hid (KX10.out.fr f11 NXY.out.2)
      have K11 := Lib.hid k11
      clear f11 k11
      clear k10r k10w
      have k11r := K11.out.rd
      have k11w := K11.out.wr
      by_cases hw0 : wt = 0
      · have t1 : (wt == 0) = true := by simpa using hw0
        have HW := Lib.hid hw0
        clear hw0
        go_upto_region 12 with (fail)
        rw [setCell_obj K11.out]
        simp only [List.setIfInBounds_toArray, List.set_cons_zero, List.set_cons_succ]
        have f12 := Fr.setObj (F := fun k => k = yb) (Fr.refl _ w11) rfl (.cells #[.int .i64 1, .int .i64 rm, .int .i64 wt] 40 (0, 0))
        have k12 : Blk (setObj w11 yb (.cells #[.int .i64 1, .int .i64 rm, .int .i64 wt] 40 (0, 0))) yb 40 #[.int .i64 1, .int .i64 rm, .int .i64 wt] := setObj_at (lt_of_block K11.out) _
        generalize setObj w11 yb (.cells #[.int .i64 1, .int .i64 rm, .int .i64 wt] 40 (0, 0)) = w12 at f12 k12 ⊢
        have H12 := Lib.hid (H11.out.fr f12 (fun k hk e => (NXY.out.1 k hk).2 e))
        have F12 := Lib.hid (F11.out.trans f12)
        have KX12 := Lib.hid (KX11.out.fr f12 NXY.out.2)
        have K12 := Lib.hid k12
        clear f12 k12
        clear k11r k11w
        have kx := KX12.out.rd
        have kw := KX12.out.wr
        have ky := K12.out.rd
        go_wp2
        rw [three_setC KX12.out]
        refine bodyPost_ret (results_cell_row rfl _ _ bx _ _ (0, 0) _ rfl (setObj_at (lt_of_block KX12.out) _) Tryz.underlying40 rfl (by kernel_rfl)) rfl ?_
        refine ⟨rfl, H12.out.fr (Fr.setObj (F := fun k => k = bx) (Fr.refl _ _) rfl _) (fun k hk e => (NXY.out.1 k hk).1 e), ?_⟩
        refine Fr.drop_new (F := N.parts) (s := bx) (Fr.drop_new (F := fun k => N.parts k ∨ k = bx) (s := yb) (((Fr.of_below F3.out).mono (fun k (hk : False) => hk.elim)).trans ((F6.out.mono (fun k hk => Or.inl (Or.inl hk))).trans (((Fr.of_below N14.out).mono (fun k (hk : False) => hk.elim)).trans ((F12.out.mono (fun k hk => Or.inr hk)).trans (Fr.setObj (F := fun k => (N.parts k ∨ k = bx) ∨ k = yb) (Fr.refl _ _) (Or.inl (Or.inr rfl)) _))))) (by have := NY.out; omega)) (by have := HB.out; omega)
      · have t1 : (wt == 0) = false := by simpa using hw0
        have HW := Lib.hid hw0
        clear hw0
        have kx := KX11.out.rd
        have kw := KX11.out.wr
        have ky := K11.out.rd
        go_wp2
        rw [three_setC KX11.out]
        refine bodyPost_ret (results_cell_row rfl _ _ bx _ _ (0, 0) _ rfl (setObj_at (lt_of_block KX11.out) _) Tryz.underlying40 rfl (by kernel_rfl)) rfl ?_
        refine ⟨rfl, H11.out.fr (Fr.setObj (F := fun k => k = bx) (Fr.refl _ _) rfl _) (fun k hk e => (NXY.out.1 k hk).1 e), ?_⟩
        refine Fr.drop_new (F := N.parts) (s := bx) (Fr.drop_new (F := fun k => N.parts k ∨ k = bx) (s := yb) (((Fr.of_below F3.out).mono (fun k (hk : False) => hk.elim)).trans ((F6.out.mono (fun k hk => Or.inl (Or.inl hk))).trans (((Fr.of_below N14.out).mono (fun k (hk : False) => hk.elim)).trans ((F11.out.mono (fun k hk => Or.inr hk)).trans (Fr.setObj (F := fun k => (N.parts k ∨ k = bx) ∨ k = yb) (Fr.refl _ _) (Or.inl (Or.inr rfl)) _))))) (by have := NY.out; omega)) (by have := HB.out; omega)
    | some c =>
      have hG := g2 c hres
      rw [hres] at CS
      have CR7 := Lib.hid (fun wx => show Calls Tryz.prog 45 #[celV c, pv N.U N.W N.B N.L, .int .i64 now] wx (fun e w' => e = .returned (.int .i64 (celR c N.U N.W N.B N.L now)) ∧ Below wx.heap.size wx w') from room_rng hG wx)
      have CW7 := Lib.hid (fun wx => show Calls Tryz.prog 46 #[celV c, pv N.U N.W N.B N.L, .int .i64 now, .int .i64 cost] wx (fun e w' => e = .returned (.int .i64 (celW c N.U N.W N.B N.L now cost)) ∧ Below wx.heap.size wx w') from wait_rng hG hcb wx)
      dsimp only
      obtain ⟨rm, hrm⟩ : ∃ rm, rm = celR c N.U N.W N.B N.L now := ⟨_, rfl⟩
      obtain ⟨wt, hwt⟩ : ∃ wt, wt = celW c N.U N.W N.B N.L now cost := ⟨_, rfl⟩
      rw [← hrm] at CR7
      rw [← hwt] at CW7
      simp only [← hrm, ← hwt]
      clear hrm hwt hG hres g1 g2
      go_enter Tryz.func22, Tryz.ntmps22
      go_upto_region 1 with (fail)
      rw [← HB.out]
      clear hw1 hbx
      go_upto_region 2 with (go_at_call 42; ((with_reducible refine CR.out.mono ?_); rintro e w2 ⟨rfl, b2⟩; have B2 := Lib.hid b2; clear b2 kx1 kw1))
      obtain ⟨w3, e3, k3, b3, s3⟩ := box_new w2 #[.int .i64 a0, .int .i64 a1, .int .i64 a2] 40
      rw [e3]
      have H3 := Lib.hid ((H1.out.keep B2.out).keep b3)
      have KX := Lib.hid ((K1.out.keep B2.out).keep b3)
      have F3 := Lib.hid (show Below w.heap.size w w3 from below_in (below_in L1.out B2.out) b3)
      have NY := Lib.hid (show w.heap.size ≤ w2.heap.size ∧ bx < w2.heap.size from ⟨(below_in L1.out B2.out).size, by have := lt_of_block (K1.out.keep B2.out); omega⟩)
      generalize w2.heap.size = yb at k3 NY ⊢
      have KY := Lib.hid k3
      have NXY := Lib.hid (show (∀ k, N.all k → k ≠ bx ∧ k ≠ yb) ∧ bx ≠ yb from ⟨fun k hk => by have := HLT.out k hk; have := HB.out; have := NY.out; omega, by have := NY.out; omega⟩)
      have kl := H3.out.hl.rd
      clear e3 b3 s3 k3
      go_upto_region 6 with (first
        | (go_at_call 43; ((with_reducible refine (CT.out _ H3.out).mono ?_); rintro e w4 ⟨rfl, r4, f4⟩; have H4 := Lib.hid (H3.out.ring r4 f4 (fun k hk => Or.inl (Or.inl hk))); have F4 := Lib.hid (show Fr N.parts w3 w4 from f4.mono (fun k hk => Or.inr (Or.inl (Or.inl (Or.inl hk))))); clear r4 f4))
        | (go_at_call 44; ((with_reducible refine (CS.out _ H4.out).mono ?_); rintro e w5 ⟨rfl, b5⟩; have H5 := Lib.hid (H4.out.keep b5); have F5 := Lib.hid (F4.out.trans (Fr.of_below b5)); simp only [resV]; clear b5)))
      obtain ⟨w6, e6, k6, b6, s6⟩ := box_new w5 #[.int .i64 c.1, .int .i64 c.2.1, .int .i64 c.2.2.1, .int .i64 c.2.2.2] 64
      rw [e6]
      have H6 := Lib.hid (H5.out.keep b6)
      have F6 := Lib.hid (F5.out.trans (Fr.of_below b6))
      have KX6 := Lib.hid (KX.out.fr F6.out (fun hk => (NXY.out.1 _ (Or.inl hk)).1 rfl))
      have KY6 := Lib.hid (KY.out.fr F6.out (fun hk => (NXY.out.1 _ (Or.inl hk)).2 rfl))
      have NZ := Lib.hid (show yb < w5.heap.size from Nat.lt_of_lt_of_le (lt_of_block KY.out) F5.out.size)
      generalize w5.heap.size = zb at k6 NZ ⊢
      have KZ := Lib.hid k6
      clear e6 b6 s6 k6 kl
      go_upto_region 7 with (fail)
      have ST := Lib.hid (fun (Wo : World) (hW : LmAt Wo N { s with r := ⟨max s.r.t now, s.r.num, s.r.F⟩ }) (hZ : Blk Wo zb 64 #[.int .i64 c.1, .int .i64 c.2.1, .int .i64 c.2.2.1, .int .i64 c.2.2.2]) => And.intro (show ∀ (j : Nat), Wo.cell? ⟨N.l, j, none⟩ = (limC N s.al s.de s.ba)[j]? from hW.hl.rd) hZ.rd)
      have BN := Lib.hid (show Below w6.heap.size w6 w6.drew from below_draws (Below.refl _ _) 1)
      have st := ST.out _ (H6.out.keep BN.out) (KZ.out.keep BN.out)
      refine wp_region_held_drew (S := fun Wo => (∀ j, Wo.cell? ⟨N.l, j, none⟩ = (limC N s.al s.de s.ba)[j]?) ∧ (∀ j, Wo.cell? ⟨zb, j, none⟩ = (#[.int .i64 c.1, .int .i64 c.2.1, .int .i64 c.2.2.1, .int .i64 c.2.2.2] : Array Value)[j]?)) (by kernel_rfl) st (fun hHeld => ?_)
      clear st
      refine wpAnyH_take (i := 0) (oi := ?_) (v := ?_) ?_ ?_ ?_ ?_ ?_ ?_ ?_ ?_
      rotate_left 2
      · simp only [List.getElem?_toArray, List.getElem?_cons_succ, List.getElem?_cons_zero]; rfl
      · kernel_rfl
      · kernel_rfl
      · kernel_rfl
      · exact fun _ _ _ h => h
      · refine Or.inl ⟨by rfl, ?_⟩
        intro w' hSw
        (try dsimp only at hSw)
        go_simp
        all_goals (with_reducible rfl)
      · assumption
      try simp only [Act.put, List.setIfInBounds_toArray, List.set_cons_zero, List.set_cons_succ]
      refine wpAnyH_take (i := 1) (oi := ?_) (v := ?_) ?_ ?_ ?_ ?_ ?_ ?_ ?_ ?_
      rotate_left 2
      · simp only [List.getElem?_toArray, List.getElem?_cons_succ, List.getElem?_cons_zero]; rfl
      · kernel_rfl
      · kernel_rfl
      · kernel_rfl
      · exact fun _ _ _ h => h
      · refine Or.inl ⟨by rfl, ?_⟩
        intro w' hSw
        (try dsimp only at hSw)
        go_simp
        all_goals (with_reducible rfl)
      · assumption
      try simp only [Act.put, List.setIfInBounds_toArray, List.set_cons_zero, List.set_cons_succ]
      refine wpAnyH_take (i := 2) (oi := ?_) (v := ?_) ?_ ?_ ?_ ?_ ?_ ?_ ?_ ?_
      rotate_left 2
      · simp only [List.getElem?_toArray, List.getElem?_cons_succ, List.getElem?_cons_zero]; rfl
      · kernel_rfl
      · kernel_rfl
      · kernel_rfl
      · exact fun _ _ _ h => h
      · refine Or.inl ⟨by rfl, ?_⟩
        intro w' hSw
        (try dsimp only at hSw)
        go_simp
        all_goals (with_reducible rfl)
      · assumption
      try simp only [Act.put, List.setIfInBounds_toArray, List.set_cons_zero, List.set_cons_succ]
      refine wpAnyH_take (i := 3) (oi := ?_) (v := ?_) ?_ ?_ ?_ ?_ ?_ ?_ ?_ ?_
      rotate_left 2
      · simp only [List.getElem?_toArray, List.getElem?_cons_succ, List.getElem?_cons_zero]; rfl
      · kernel_rfl
      · kernel_rfl
      · kernel_rfl
      · exact fun _ _ _ h => h
      · refine Or.inl ⟨by rfl, ?_⟩
        intro w' hSw
        (try dsimp only at hSw)
        go_simp
        all_goals (with_reducible rfl)
      · assumption
      try simp only [Act.put, List.setIfInBounds_toArray, List.set_cons_zero, List.set_cons_succ]
      refine wpAnyH_take (i := 4) (oi := ?_) (v := ?_) ?_ ?_ ?_ ?_ ?_ ?_ ?_ ?_
      rotate_left 2
      · simp only [List.getElem?_toArray, List.getElem?_cons_succ, List.getElem?_cons_zero]; rfl
      · kernel_rfl
      · kernel_rfl
      · kernel_rfl
      · exact fun _ _ _ h => h
      · refine Or.inl ⟨by rfl, ?_⟩
        intro w' hSw
        (try dsimp only at hSw)
        go_simp
        all_goals (with_reducible rfl)
      · assumption
      try simp only [Act.put, List.setIfInBounds_toArray, List.set_cons_zero, List.set_cons_succ]
      refine wpAnyH_take (i := 5) (oi := ?_) (v := ?_) ?_ ?_ ?_ ?_ ?_ ?_ ?_ ?_
      rotate_left 2
      · simp only [List.getElem?_toArray, List.getElem?_cons_succ, List.getElem?_cons_zero]; rfl
      · kernel_rfl
      · kernel_rfl
      · kernel_rfl
      · exact fun _ _ _ h => h
      · refine Or.inl ⟨by rfl, ?_⟩
        intro w' hSw
        (try dsimp only at hSw)
        go_simp
        all_goals (with_reducible rfl)
      · assumption
      try simp only [Act.put, List.setIfInBounds_toArray, List.set_cons_zero, List.set_cons_succ]
      refine wpAnyH_take (i := 7) (oi := ?_) (v := ?_) ?_ ?_ ?_ ?_ ?_ ?_ ?_ ?_
      rotate_left 2
      · simp only [List.getElem?_toArray, List.getElem?_cons_succ, List.getElem?_cons_zero]; rfl
      · kernel_rfl
      · kernel_rfl
      · kernel_rfl
      · exact fun _ _ _ h => h
      · refine Or.inl ⟨by rfl, ?_⟩
        intro w' hSw
        (try dsimp only at hSw)
        go_simp
        all_goals (with_reducible rfl)
      · assumption
      try simp only [Act.put, List.setIfInBounds_toArray, List.set_cons_zero, List.set_cons_succ]
      refine wpAnyH_take (i := 8) (oi := ?_) (v := ?_) ?_ ?_ ?_ ?_ ?_ ?_ ?_ ?_
      rotate_left 2
      · simp only [List.getElem?_toArray, List.getElem?_cons_succ, List.getElem?_cons_zero]; rfl
      · kernel_rfl
      · kernel_rfl
      · kernel_rfl
      · exact fun _ _ _ h => h
      · refine Or.inl ⟨by rfl, ?_⟩
        intro w' hSw
        (try dsimp only at hSw)
        go_simp
        all_goals (with_reducible rfl)
      · assumption
      try simp only [Act.put, List.setIfInBounds_toArray, List.set_cons_zero, List.set_cons_succ]
      refine wpAnyH_take (i := 9) (oi := ?_) (v := ?_) ?_ ?_ ?_ ?_ ?_ ?_ ?_ ?_
      rotate_left 2
      · simp only [List.getElem?_toArray, List.getElem?_cons_succ, List.getElem?_cons_zero]; rfl
      · kernel_rfl
      · kernel_rfl
      · kernel_rfl
      · exact fun _ _ _ h => h
      · refine Or.inl ⟨by rfl, ?_⟩
        intro w' hSw
        (try dsimp only at hSw)
        go_simp
        all_goals (with_reducible rfl)
      · assumption
      try simp only [Act.put, List.setIfInBounds_toArray, List.set_cons_zero, List.set_cons_succ]
      refine wpAnyH_take (i := 10) (oi := ?_) (v := ?_) ?_ ?_ ?_ ?_ ?_ ?_ ?_ ?_
      rotate_left 2
      · simp only [List.getElem?_toArray, List.getElem?_cons_succ, List.getElem?_cons_zero]; rfl
      · kernel_rfl
      · kernel_rfl
      · kernel_rfl
      · exact fun _ _ _ h => h
      · refine Or.inl ⟨by rfl, ?_⟩
        intro w' hSw
        (try dsimp only at hSw)
        go_simp
        all_goals (with_reducible rfl)
      · assumption
      try simp only [Act.put, List.setIfInBounds_toArray, List.set_cons_zero, List.set_cons_succ]
      refine wpAnyH_take (i := 11) (oi := ?_) (v := ?_) ?_ ?_ ?_ ?_ ?_ ?_ ?_ ?_
      rotate_left 2
      · simp only [List.getElem?_toArray, List.getElem?_cons_succ, List.getElem?_cons_zero]; rfl
      · kernel_rfl
      · kernel_rfl
      · kernel_rfl
      · exact fun _ _ _ h => h
      · refine Or.inl ⟨by rfl, ?_⟩
        intro w' hSw
        (try dsimp only at hSw)
        go_simp
        all_goals (with_reducible rfl)
      · assumption
      try simp only [Act.put, List.setIfInBounds_toArray, List.set_cons_zero, List.set_cons_succ]
      refine wpAnyH_take (i := 12) (oi := ?_) (v := ?_) ?_ ?_ ?_ ?_ ?_ ?_ ?_ ?_
      rotate_left 2
      · simp only [List.getElem?_toArray, List.getElem?_cons_succ, List.getElem?_cons_zero]; rfl
      · kernel_rfl
      · kernel_rfl
      · kernel_rfl
      · exact fun _ _ _ h => h
      · refine Or.inl ⟨by rfl, ?_⟩
        intro w' hSw
        (try dsimp only at hSw)
        go_simp
        all_goals (with_reducible rfl)
      · assumption
      try simp only [Act.put, List.setIfInBounds_toArray, List.set_cons_zero, List.set_cons_succ]
      refine wpAnyH_take (i := 13) (oi := ?_) (v := ?_) ?_ ?_ ?_ ?_ ?_ ?_ ?_ ?_
      rotate_left 2
      · simp only [List.getElem?_toArray, List.getElem?_cons_succ, List.getElem?_cons_zero]; rfl
      · kernel_rfl
      · kernel_rfl
      · kernel_rfl
      · exact fun _ _ _ h => h
      · refine Or.inl ⟨by rfl, ?_⟩
        intro w' hSw
        (try dsimp only at hSw)
        go_simp
        all_goals (with_reducible rfl)
      · assumption
      try simp only [Act.put, List.setIfInBounds_toArray, List.set_cons_zero, List.set_cons_succ]
      refine wpAnyH_ready (rs := [6]) (by kernel_rfl) (by simp) ?_
      refine AllReadyH.cons (o := ?_) ?_ ?_ ?_
      rotate_left 1
      · simp only [List.getElem?_toArray, List.getElem?_cons_succ, List.getElem?_cons_zero]; rfl
      rotate_left 1
      · exact AllReadyH.nil
      intro K hK
      go_simp
      ((with_reducible refine (CR7.out _).mono ?_); rintro e w7 ⟨rfl, be⟩; have N6 := Lib.hid (G.below_on BN.out be); clear be)
      refine hK.out _ _ (ST.out _ (H6.out.keep N6.out) (KZ.out.keep N6.out)) (fun hHeld => ?_)
      clear hK K
      try simp only [Act.put, List.setIfInBounds_toArray, List.set_cons_zero, List.set_cons_succ]
      refine wpAnyH_take (i := 15) (oi := ?_) (v := ?_) ?_ ?_ ?_ ?_ ?_ ?_ ?_ ?_
      rotate_left 2
      · simp only [List.getElem?_toArray, List.getElem?_cons_succ, List.getElem?_cons_zero]; rfl
      · kernel_rfl
      · kernel_rfl
      · kernel_rfl
      · exact fun _ _ _ h => h
      · refine Or.inl ⟨by rfl, ?_⟩
        intro w' hSw
        (try dsimp only at hSw)
        go_simp
        all_goals (with_reducible rfl)
      · assumption
      try simp only [Act.put, List.setIfInBounds_toArray, List.set_cons_zero, List.set_cons_succ]
      refine wpAnyH_ready (rs := [14]) (by kernel_rfl) (by simp) ?_
      refine AllReadyH.cons (o := ?_) ?_ ?_ ?_
      rotate_left 1
      · simp only [List.getElem?_toArray, List.getElem?_cons_succ, List.getElem?_cons_zero]; rfl
      rotate_left 1
      · exact AllReadyH.nil
      intro K hK
      go_simp
      ((with_reducible refine (CW7.out _).mono ?_); rintro e w8 ⟨rfl, be⟩; have N14 := Lib.hid (G.below_on N6.out be); have K8 := Lib.hid (KY6.out.keep N14.out); have kw8 := K8.out.wr; have kr8 := K8.out.rd; clear be)
      refine hK.out _ _ (ST.out _ (H6.out.keep N14.out) (KZ.out.keep N14.out)) (fun hHeld => ?_)
      clear hK K
      try simp only [Act.put, List.setIfInBounds_toArray, List.set_cons_zero, List.set_cons_succ]
      refine wpAnyH_ready (rs := [16]) (by kernel_rfl) (by simp) ?_
      refine AllReadyH.cons (o := ?_) ?_ ?_ ?_
      rotate_left 1
      · simp only [List.getElem?_toArray, List.getElem?_cons_succ, List.getElem?_cons_zero]; rfl
      rotate_left 1
      · exact AllReadyH.nil
      intro K hK
      go_simp
      rw [setCell_obj K8.out]; simp only [List.setIfInBounds_toArray, List.set_cons_zero, List.set_cons_succ]; have f9 := Fr.setObj (F := fun k => k = yb) (Fr.refl _ w8) rfl (.cells #[.int .i64 a0, .int .i64 rm, .int .i64 a2] 40 (0, 0)); have k9 : Blk (setObj w8 yb (.cells #[.int .i64 a0, .int .i64 rm, .int .i64 a2] 40 (0, 0))) yb 40 #[.int .i64 a0, .int .i64 rm, .int .i64 a2] := setObj_at (lt_of_block K8.out) _; generalize setObj w8 yb (.cells #[.int .i64 a0, .int .i64 rm, .int .i64 a2] 40 (0, 0)) = w9 at f9 k9 ⊢; have H9 := Lib.hid ((H6.out.keep N14.out).fr f9 (fun k hk e => (NXY.out.1 k hk).2 e)); have Z9 := Lib.hid ((KZ.out.keep N14.out).fr f9 (by have := NZ.out; omega)); have F9 := Lib.hid f9; have K9 := Lib.hid k9; have kw9 := k9.wr; have kr9 := k9.rd; clear f9 k9 kw8 kr8
      refine hK.out _ _ (ST.out _ H9.out Z9.out) (fun hHeld => ?_)
      clear hK K
      try simp only [Act.put, List.setIfInBounds_toArray, List.set_cons_zero, List.set_cons_succ]
      refine wpAnyH_take (i := 17) (oi := ?_) (v := ?_) ?_ ?_ ?_ ?_ ?_ ?_ ?_ ?_
      rotate_left 2
      · simp only [List.getElem?_toArray, List.getElem?_cons_succ, List.getElem?_cons_zero]; rfl
      · kernel_rfl
      · kernel_rfl
      · kernel_rfl
      · exact fun _ _ _ h => h
      · refine Or.inl ⟨by rfl, ?_⟩
        intro w' hSw
        (try dsimp only at hSw)
        go_simp
        all_goals (with_reducible rfl)
      · assumption
      try simp only [Act.put, List.setIfInBounds_toArray, List.set_cons_zero, List.set_cons_succ]
      refine wpAnyH_ready (rs := [18]) (by kernel_rfl) (by simp) ?_
      refine AllReadyH.cons (o := ?_) ?_ ?_ ?_
      rotate_left 1
      · simp only [List.getElem?_toArray, List.getElem?_cons_succ, List.getElem?_cons_zero]; rfl
      rotate_left 1
      · exact AllReadyH.nil
      intro K hK
      go_simp
      rw [setCell_obj K9.out]; simp only [List.setIfInBounds_toArray, List.set_cons_zero, List.set_cons_succ]; have f10 := Fr.setObj (F := fun k => k = yb) (Fr.refl _ w9) rfl (.cells #[.int .i64 a0, .int .i64 rm, .int .i64 wt] 40 (0, 0)); have k10 : Blk (setObj w9 yb (.cells #[.int .i64 a0, .int .i64 rm, .int .i64 wt] 40 (0, 0))) yb 40 #[.int .i64 a0, .int .i64 rm, .int .i64 wt] := setObj_at (lt_of_block K9.out) _; generalize setObj w9 yb (.cells #[.int .i64 a0, .int .i64 rm, .int .i64 wt] 40 (0, 0)) = w10 at f10 k10 ⊢; have H10 := Lib.hid (H9.out.fr f10 (fun k hk e => (NXY.out.1 k hk).2 e)); have Z10 := Lib.hid (Z9.out.fr f10 (by have := NZ.out; omega)); have F10 := Lib.hid (F9.out.trans f10); have K10 := Lib.hid k10; clear f10 k10 kw9 kr9
      refine hK.out _ _ (ST.out _ H10.out Z10.out) (fun hHeld => ?_)
      clear hK K
      try simp only [Act.put, List.setIfInBounds_toArray, List.set_cons_zero, List.set_cons_succ]
      refine wpAnyH_done (by kernel_rfl) ?_ _
      clear hHeld
      have KX10 := Lib.hid ((KX6.out.keep N14.out).fr F10.out NXY.out.2)
      have k10r := K10.out.rd
      have k10w := K10.out.wr
      go_upto_region 10 with (fail)
      rw [setCell_obj K10.out]
      simp only [List.setIfInBounds_toArray, List.set_cons_zero, List.set_cons_succ]
      have f11 := Fr.setObj (F := fun k => k = yb) (Fr.refl _ w10) rfl (.cells #[.int .i64 2, .int .i64 rm, .int .i64 wt] 40 (0, 0))
      have k11 : Blk (setObj w10 yb (.cells #[.int .i64 2, .int .i64 rm, .int .i64 wt] 40 (0, 0))) yb 40 #[.int .i64 2, .int .i64 rm, .int .i64 wt] := setObj_at (lt_of_block K10.out) _
      generalize setObj w10 yb (.cells #[.int .i64 2, .int .i64 rm, .int .i64 wt] 40 (0, 0)) = w11 at f11 k11 ⊢
      have H11 := Lib.hid (H10.out.fr f11 (fun k hk e => (NXY.out.1 k hk).2 e))
      have F11 := Lib.hid (F10.out.trans f11)
      have KX11 := Lib.hid (KX10.out.fr f11 NXY.out.2)
      have K11 := Lib.hid k11
      clear f11 k11
      clear k10r k10w
      have k11r := K11.out.rd
      have k11w := K11.out.wr
      by_cases hw0 : wt = 0
      · have t1 : (wt == 0) = true := by simpa using hw0
        have HW := Lib.hid hw0
        clear hw0
        go_upto_region 12 with (fail)
        rw [setCell_obj K11.out]
        simp only [List.setIfInBounds_toArray, List.set_cons_zero, List.set_cons_succ]
        have f12 := Fr.setObj (F := fun k => k = yb) (Fr.refl _ w11) rfl (.cells #[.int .i64 1, .int .i64 rm, .int .i64 wt] 40 (0, 0))
        have k12 : Blk (setObj w11 yb (.cells #[.int .i64 1, .int .i64 rm, .int .i64 wt] 40 (0, 0))) yb 40 #[.int .i64 1, .int .i64 rm, .int .i64 wt] := setObj_at (lt_of_block K11.out) _
        generalize setObj w11 yb (.cells #[.int .i64 1, .int .i64 rm, .int .i64 wt] 40 (0, 0)) = w12 at f12 k12 ⊢
        have H12 := Lib.hid (H11.out.fr f12 (fun k hk e => (NXY.out.1 k hk).2 e))
        have F12 := Lib.hid (F11.out.trans f12)
        have KX12 := Lib.hid (KX11.out.fr f12 NXY.out.2)
        have K12 := Lib.hid k12
        clear f12 k12
        clear k11r k11w
        have kx := KX12.out.rd
        have kw := KX12.out.wr
        have ky := K12.out.rd
        go_wp2
        rw [three_setC KX12.out]
        refine bodyPost_ret (results_cell_row rfl _ _ bx _ _ (0, 0) _ rfl (setObj_at (lt_of_block KX12.out) _) Tryz.underlying40 rfl (by kernel_rfl)) rfl ?_
        refine ⟨rfl, H12.out.fr (Fr.setObj (F := fun k => k = bx) (Fr.refl _ _) rfl _) (fun k hk e => (NXY.out.1 k hk).1 e), ?_⟩
        refine Fr.drop_new (F := N.parts) (s := bx) (Fr.drop_new (F := fun k => N.parts k ∨ k = bx) (s := yb) (((Fr.of_below F3.out).mono (fun k (hk : False) => hk.elim)).trans ((F6.out.mono (fun k hk => Or.inl (Or.inl hk))).trans (((Fr.of_below N14.out).mono (fun k (hk : False) => hk.elim)).trans ((F12.out.mono (fun k hk => Or.inr hk)).trans (Fr.setObj (F := fun k => (N.parts k ∨ k = bx) ∨ k = yb) (Fr.refl _ _) (Or.inl (Or.inr rfl)) _))))) (by have := NY.out; omega)) (by have := HB.out; omega)
      · have t1 : (wt == 0) = false := by simpa using hw0
        have HW := Lib.hid hw0
        clear hw0
        have kx := KX11.out.rd
        have kw := KX11.out.wr
        have ky := K11.out.rd
        go_wp2
        rw [three_setC KX11.out]
        refine bodyPost_ret (results_cell_row rfl _ _ bx _ _ (0, 0) _ rfl (setObj_at (lt_of_block KX11.out) _) Tryz.underlying40 rfl (by kernel_rfl)) rfl ?_
        refine ⟨rfl, H11.out.fr (Fr.setObj (F := fun k => k = bx) (Fr.refl _ _) rfl _) (fun k hk e => (NXY.out.1 k hk).1 e), ?_⟩
        refine Fr.drop_new (F := N.parts) (s := bx) (Fr.drop_new (F := fun k => N.parts k ∨ k = bx) (s := yb) (((Fr.of_below F3.out).mono (fun k (hk : False) => hk.elim)).trans ((F6.out.mono (fun k hk => Or.inl (Or.inl hk))).trans (((Fr.of_below N14.out).mono (fun k (hk : False) => hk.elim)).trans ((F11.out.mono (fun k hk => Or.inr hk)).trans (Fr.setObj (F := fun k => (N.parts k ∨ k = bx) ∨ k = yb) (Fr.refl _ _) (Or.inl (Or.inr rfl)) _))))) (by have := NY.out; omega)) (by have := HB.out; omega)
end
end Go.Proofs.YtbgcpljekcagiaaGreat
/- What stays true of a limiter while it is called: its numbers. -/
namespace Go.Proofs.YtbgcpljekcagiaaGreat
set_option linter.unusedSimpArgs false
set_option linter.unusedVariables false
set_option maxRecDepth 100000
open Go.ChangeShapes Go.WideShapes Go.ChangeAt Go.RowKit
open Ar (inR)
section
variable {R : RgN} {σ : RgS} {T : Int}
/-- a ring that may lie somewhere. -/
def RgOk (R : RgN) (σ : RgS) : Prop := ∃ w, RgAt w R σ
theorem RgOk.to (h : RgOk R σ) {t : Int} (ht : t ≤ 9223372036854775807) : RgOk R ⟨max σ.t t, σ.num, σ.F⟩ := by
  obtain ⟨w, h⟩ := h
  have hf : Fr (fun b => b = R.x) w (setObj w R.x (.cells (ringC R (max σ.t t)) 138 (0, 0))) := Fr.setObj (F := fun b => b = R.x) (Fr.refl _ _) rfl _
  exact ⟨_, setObj_at (lt_of_block h.hx) _, h.hp.fr hf (fun e => h.nx e.symm), fun i hi => (h.hs i hi).fr hf (h.ns i hi).1.1 (h.ns i hi).2.1, h.nx, h.ns, h.ng, h.bd, (by have := h.ht; show 0 ≤ max σ.t t ∧ max σ.t t ≤ _; omega), h.hn⟩
theorem okC_zero : Sk.okC (fun _ _ => 0) := fun _ _ => by show (0 : Int) ≤ 0 ∧ (0 : Int) ≤ 9223372036854775807; omega
theorem RgOk.add (h : RgOk R σ) (s : ByteArray) {c : Int} (hc : c ≤ 9223372036854775807) : RgOk R (σ.add R s c) := by
  obtain ⟨w, h⟩ := h
  have hpl := h.pl_lt.1
  have h1 := h.putN (i := σ.pl R) (v := σ.now R) hpl h.now_in
  have h0 : Sk.okC (if σ.num (σ.pl R) = σ.now R then σ.F (σ.pl R) else fun _ _ => 0) := by
    split
    · exact h.ok _ hpl
    · exact okC_zero
  have h2 := h0.add R.P R.k s hc
  have h3 := (h1.hs (σ.pl R) hpl).put h2
  exact ⟨_, h1.putF hpl h3 (Fr.setObj (F := fun b => b = R.gs (σ.pl R)) (Fr.refl _ _) rfl _)⟩
theorem RgOk.few_add (h : RgOk R σ) (hf : FewR R σ T) (s : ByteArray) {c : Int} (hc : 0 ≤ c ∧ c ≤ 9223372036854775807) : FewR R (σ.add R s c) (T + c) := by
  obtain ⟨w, h⟩ := h
  exact hf.add h s hc
theorem RgOk.est (h : RgOk R σ) (hf : FewR R σ T) (hT : T ≤ 9223372036854775807) (s : ByteArray) : 0 ≤ estZ R σ s ∧ estZ R σ s ≤ T := by
  obtain ⟨w, h⟩ := h
  obtain ⟨p1, p2, p3, p4⟩ := est_parts (s := s) h hf hT
  have hn := h.bd.1
  have ha := hf.all s
  have sp := rsum_split (R := R) (σ := σ) (s := s) (a := σ.now R - ((R.n : Int) - 1)) (b := σ.now R) (c := σ.now R - ((R.n : Int) - 1)) (by omega) (by omega) R.n
  have r3 := rsum_in (R := R) (σ := σ) (s := s) h.ok (σ.now R - ((R.n : Int) - 1)) (σ.now R)
  have r4 := rsum_in (R := R) (σ := σ) (s := s) h.ok (σ.now R - ((R.n : Int) - 1) + 1) (σ.now R)
  omega
end
/-- no counter is greater than what was added. -/
theorem RgOk.cnt_add {R : RgN} {σ : RgS} {T : Int} (h : RgOk R σ) (hT : 0 ≤ T) (hf : ∀ i j p, σ.F i j p ≤ T) (s : ByteArray) {c : Int} (hc : 0 ≤ c ∧ c ≤ 9223372036854775807) : ∀ i j p, (σ.add R s c).F i j p ≤ T + c := by
  obtain ⟨w, h⟩ := h
  intro i j p
  have hpl := h.pl_lt.1
  have h0 : Sk.okC (if σ.num (σ.pl R) = σ.now R then σ.F (σ.pl R) else fun _ _ => 0) := by
    split
    · exact h.ok _ hpl
    · exact okC_zero
  show updN σ.F (σ.pl R) (Sk.add (if σ.num (σ.pl R) = σ.now R then σ.F (σ.pl R) else fun _ _ => 0) R.P R.k s c) i j p ≤ T + c
  by_cases e : i = σ.pl R
  · subst e
    rw [updN_self]
    refine Int.le_trans (Sk.add_le h0 R.P s hc j p) ?_
    have : (if σ.num (σ.pl R) = σ.now R then σ.F (σ.pl R) else fun _ _ => 0) j p ≤ T := by
      split
      · exact hf _ j p
      · exact hT
    omega
  · rw [updN_ne _ _ e]
    have := hf i j p
    omega
theorem FewR.mono {R : RgN} {σ : RgS} {T T' : Int} (h : FewR R σ T) (hT : T ≤ T') : FewR R σ T' := ⟨fun s => Int.le_trans (h.all s) hT, h.now⟩
/-- what the laws know of a limiter: its numbers are so large at most. -/
structure LmI (N : LmN) (s : LmS) (t m : Int) : Prop where
  rg : RgOk N.R s.r
  few : FewR N.R s.r m
  cnt : ∀ i j p, s.r.F i j p ≤ m
  t1 : s.r.t ≤ t
  t0 : 0 ≤ t ∧ t ≤ 4611686018427387904
  c : ∀ c ∈ s.C, (0 ≤ c.1 ∧ c.1 ≤ t + 1099511627776) ∧ (0 ≤ c.2.1 ∧ c.2.1 ≤ t) ∧ (0 ≤ c.2.2.1 ∧ c.2.2.1 ≤ m) ∧ 0 ≤ c.2.2.2 ∧ c.2.2.2 ≤ m
  al : 0 ≤ s.al ∧ s.al ≤ m
  de : 0 ≤ s.de ∧ s.de ≤ m
  ba : 0 ≤ s.ba ∧ s.ba ≤ m
  m : 0 ≤ m ∧ m ≤ 576460752303423488
  U : 1 ≤ N.U ∧ N.U ≤ 1048576
  W : 1 ≤ N.W ∧ N.W ≤ 1048576
  B : 1 ≤ N.B ∧ N.B ≤ 1048576
  L : 1 ≤ N.L ∧ N.L ≤ 1048576
section
variable {N : LmN} {s : LmS} {t m now : Int}
theorem LmI.g (h : LmI N s now m) : LmG N s now := by
  have t0 := h.t0
  have hm := h.m
  refine ⟨fun c hc => ?_, by have := h.t1; omega, t0, h.U, h.W, h.B, h.L⟩
  obtain ⟨h1, h2, h3, h4⟩ := h.c c hc
  exact ⟨⟨by omega, by omega, by omega, by omega, h.U, h.W, h.B, h.L, t0⟩, by omega⟩
theorem LmI.mono (h : LmI N s t m) {t' m' : Int} (ht : t ≤ t' ∧ t' ≤ 4611686018427387904) (hm : m ≤ m' ∧ m' ≤ 576460752303423488) : LmI N s t' m' := by
  have t0 := h.t0
  have m0 := h.m
  refine ⟨h.rg, h.few.mono hm.1, fun i j p => Int.le_trans (h.cnt i j p) hm.1, by have := h.t1; omega, by omega, fun c hc => ?_, by have := h.al; omega, by have := h.de; omega, by have := h.ba; omega, by omega, h.U, h.W, h.B, h.L⟩
  obtain ⟨h1, h2, h3, h4⟩ := h.c c hc
  omega
theorem LmI.to (h : LmI N s now m) : LmI N { s with r := ⟨max s.r.t now, s.r.num, s.r.F⟩ } now m := by
  obtain ⟨rg, few, cnt, t1, t0, c, al, de, ba, hm, U, W, B, L⟩ := h
  have hs : 1 ≤ N.R.s := by obtain ⟨w, hw⟩ := rg; exact hw.bd.2.1.1
  exact ⟨rg.to (by omega), few.to hs (by omega), cnt, by show max s.r.t now ≤ now; omega, t0, c, al, de, ba, hm, U, W, B, L⟩
theorem LmI.seen (h : LmI N s now m) (key : ByteArray) (cost : Int) : LmI N (s.seen N now key cost) now m := by
  obtain ⟨rg, few, cnt, t1, t0, c, al, de, ba, hm, U, W, B, L⟩ := h.to
  exact ⟨rg, few, cnt, t1, t0, c, al, de, ba, hm, U, W, B, L⟩
theorem LmI.est (h : LmI N s now m) (key : ByteArray) : 0 ≤ estZ N.R s.r key ∧ estZ N.R s.r key ≤ m := h.rg.est h.few (by have := h.m; omega) key
theorem LmI.evict (h : LmI N s now m) (hm : m + 1048576 ≤ 576460752303423488) (o : ByteArray) : LmI N (s.evict N now o) now (m + 1048576) := by
  have hb := bound_in (h.g.rem (s.σ.del N.Q.N.n o).2)
  have h2 := h.mono (t' := now) (m' := m + 1048576) ⟨Int.le_refl _, h.t0.2⟩ ⟨by omega, hm⟩
  obtain ⟨rg, few, cnt, t1, t0, c, al, de, ba, hm, U, W, B, L⟩ := h2
  have f1 := h.rg.few_add h.few o (c := boundP (remC s.C (s.σ.del N.Q.N.n o).2).1 (remC s.C (s.σ.del N.Q.N.n o).2).2.1 (remC s.C (s.σ.del N.Q.N.n o).2).2.2.2 N.U N.W N.L now) (by omega)
  have f2 := h.rg.cnt_add h.m.1 h.cnt o (c := boundP (remC s.C (s.σ.del N.Q.N.n o).2).1 (remC s.C (s.σ.del N.Q.N.n o).2).2.1 (remC s.C (s.σ.del N.Q.N.n o).2).2.2.2 N.U N.W N.L now) (by omega)
  exact ⟨rg.add o (by omega), f1.mono (by omega), fun i j p => Int.le_trans (f2 i j p) (by omega), t1, t0, c, al, de, ba, hm, U, W, B, L⟩
theorem plSet_mem {C : List Cel} {c x : Cel} {o : Option Nat} (h : x ∈ plSet C c o) : x = c ∨ x ∈ C := by
  cases o with
  | none => exact Or.inr h
  | some i =>
    rcases List.mem_or_eq_of_mem_set h with h | h
    · exact Or.inr h
    · exact Or.inl h
theorem LmI.put (h : LmI N s now m) (key : ByteArray) : LmI N (s.put N now key) now m := by
  have he := h.est key
  have ht := h.t0
  obtain ⟨rg, few, cnt, t1, t0, c, al, de, ba, hm, U, W, B, L⟩ := h
  refine ⟨rg, few, cnt, t1, t0, fun x hx => ?_, al, de, ba, hm, U, W, B, L⟩
  rcases plSet_mem hx with rfl | hx
  · exact ⟨by show 0 ≤ now ∧ now ≤ _; omega, by show 0 ≤ now ∧ now ≤ _; omega, he, by show (0 : Int) ≤ 0 ∧ 0 ≤ m; omega⟩
  · exact c x hx
theorem LmI.adm (h : LmI N s now m) (hm : m + 1048576 ≤ 576460752303423488) (key : ByteArray) : LmI N (s.adm N now key).1 now (m + 1048576) := by
  have h0 := h.mono (t' := now) (m' := m + 1048576) ⟨Int.le_refl _, h.t0.2⟩ ⟨by omega, hm⟩
  unfold LmS.adm
  split
  · exact h0
  · split
    · split
      · exact (h.evict hm _).put key
      · exact h0
    · exact h0.put key
theorem LmI.judge (h : LmI N s now m) (hm : m + 1048576 ≤ 576460752303423488) (key : ByteArray) {cost : Int} (hc : 1 ≤ cost ∧ cost ≤ N.B) : LmI N (s.judge N now key cost).2 now (m + 1048576) := by
  have h0 := h.mono (t' := now) (m' := m + 1048576) ⟨Int.le_refl _, h.t0.2⟩ ⟨by omega, hm⟩
  have hB := h.B
  have hg := h.g
  have hcs := h.c
  unfold LmS.judge
  split
  · rename_i i hi
    split
    · rename_i hle
      obtain ⟨rg, few, cnt, t1, t0, c, al, de, ba, hm, U, W, B, L⟩ := h0
      refine ⟨rg, few, cnt, t1, t0, fun x hx => ?_, al, de, ba, hm, U, W, B, L⟩
      have hG : celG (s.C.getD i (0, 0, 0, 0)) N.U N.W N.B N.L now := hg.rem (some i)
      rcases List.mem_or_eq_of_mem_set hx with hx | hx
      · exact c x hx
      · have hin : s.C.getD i (0, 0, 0, 0) ∈ s.C ∨ s.C.getD i (0, 0, 0, 0) = (0, 0, 0, 0) := by
          rw [List.getD_eq_getElem?_getD]
          cases hq : s.C[i]? with
          | none => exact Or.inr rfl
          | some y => exact Or.inl (List.mem_of_getElem? hq)
        obtain ⟨cc, hcc⟩ : ∃ cc, cc = s.C.getD i (0, 0, 0, 0) := ⟨_, rfl⟩
        rw [← hcc] at hG hle hin hx
        have hcel : (0 ≤ cc.1 ∧ cc.1 ≤ now + 1099511627776) ∧ (0 ≤ cc.2.1 ∧ cc.2.1 ≤ now) ∧ (0 ≤ cc.2.2.1 ∧ cc.2.2.1 ≤ m) ∧ 0 ≤ cc.2.2.2 ∧ cc.2.2.2 ≤ m := by
          rcases hin with hin | hin
          · exact hcs cc hin
          · rw [hin]
            have := h.m
            refine ⟨?_, ?_, ?_, ?_⟩
            · show (0 : Int) ≤ 0 ∧ (0 : Int) ≤ _; omega
            · show (0 : Int) ≤ 0 ∧ (0 : Int) ≤ _; omega
            · show (0 : Int) ≤ 0 ∧ (0 : Int) ≤ _; omega
            · show (0 : Int) ≤ 0 ∧ (0 : Int) ≤ _; omega
        have hl := (take_leaves hG ⟨hc.1, hle⟩).1
        have hbu := hG.bu
        have hcu := (hG.kb hc).2.2.2
        rw [hx]
        obtain ⟨g1, g2, g3, g4⟩ := hcel
        exact ⟨by show 0 ≤ max cc.1 now + cost * N.U ∧ max cc.1 now + cost * N.U ≤ _; omega, g2, by show 0 ≤ cc.2.2.1 ∧ cc.2.2.1 ≤ _; omega, by show 0 ≤ cc.2.2.2 + cost ∧ cc.2.2.2 + cost ≤ _; omega⟩
    · exact h0
  · split
    · obtain ⟨rg, few, cnt, t1, t0, c, al, de, ba, hm, U, W, B, L⟩ := h0
      have f1 := h.rg.few_add h.few key (c := cost) (by omega)
      have f2 := h.rg.cnt_add h.m.1 h.cnt key (c := cost) (by omega)
      exact ⟨rg.add key (by omega), f1.mono (by omega), fun i j p => Int.le_trans (f2 i j p) (by omega), t1, t0, c, al, de, ba, hm, U, W, B, L⟩
    · exact h0
theorem LmI.count (h : LmI N s now m) (hm : m + 1 ≤ 576460752303423488) (v : Int) : LmI N (s.count v) now (m + 1) := by
  have h0 := h.mono (t' := now) (m' := m + 1) ⟨Int.le_refl _, h.t0.2⟩ ⟨by omega, hm⟩
  have a1 := h.al
  have a2 := h.de
  have a3 := h.ba
  obtain ⟨rg, few, cnt, t1, t0, c, al, de, ba, hm, U, W, B, L⟩ := h0
  unfold LmS.count
  split
  · exact ⟨rg, few, cnt, t1, t0, c, by show 0 ≤ s.al + 1 ∧ s.al + 1 ≤ m + 1; omega, de, ba, hm, U, W, B, L⟩
  · split
    · exact ⟨rg, few, cnt, t1, t0, c, al, by show 0 ≤ s.de + 1 ∧ s.de + 1 ≤ m + 1; omega, ba, hm, U, W, B, L⟩
    · split
      · exact ⟨rg, few, cnt, t1, t0, c, al, de, by show 0 ≤ s.ba + 1 ∧ s.ba + 1 ≤ m + 1; omega, hm, U, W, B, L⟩
      · exact ⟨rg, few, cnt, t1, t0, c, al, de, ba, hm, U, W, B, L⟩
theorem LmI.check (h : LmI N s now m) (hm : m + 2097153 ≤ 576460752303423488) (held : Int) (key : ByteArray) (cost : Int) : LmI N (s.check N now held key cost).1 now (m + 2097153) := by
  unfold LmS.check
  split
  · exact (h.count (by omega) _).mono ⟨Int.le_refl _, h.t0.2⟩ ⟨by omega, by omega⟩
  · rename_i hr
    have hr : (refZ N now held cost).2 = false := by
      cases hq : (refZ N now held cost).2
      · rfl
      · exact absurd hq hr
    have h1 := ((h.seen key cost).adm (by omega) key).judge (by omega) key (refZ_no N now held cost hr).1
    exact (h1.count (by omega) _).mono ⟨Int.le_refl _, h.t0.2⟩ ⟨by omega, by omega⟩
theorem LmI.peeked (h : LmI N s now m) (held cost : Int) : LmI N (s.peeked N now held cost) now m := by
  unfold LmS.peeked
  split
  · exact h
  · exact h.to
theorem LmI.resi (h : LmI N s now m) {key : ByteArray} {c : Cel} (hc : s.resi N now key = some c) : celG c N.U N.W N.B N.L now := by
  have hg := h.g
  unfold LmS.resi at hc
  split at hc
  · rename_i i hi
    injection hc with hc
    rw [← hc]
    exact hg.rem (some i)
  · split at hc
    · cases hc
    · injection hc with hc
      rw [← hc]
      have he := h.est key
      have ht := h.t0
      have hm := h.m
      exact ⟨by show 0 ≤ now ∧ now ≤ _; omega, by show 0 ≤ now ∧ now ≤ _; omega, by show 0 ≤ estZ N.R s.r key ∧ estZ N.R s.r key ≤ _; omega, by show (0 : Int) ≤ 0 ∧ (0 : Int) ≤ _; omega, h.U, h.W, h.B, h.L, ht⟩
theorem LmAt.keys {w : World} (h : LmAt w N s) : ∀ x ∈ s.res N, x.1.size ≤ 64 := by
  intro x hx
  obtain ⟨i, _, he⟩ := List.mem_filterMap.1 hx
  cases hk : s.σ.K i with
  | none => rw [hk] at he; cases he
  | some y =>
    rw [hk] at he
    injection he with he
    rw [← he]
    exact (h.hp.ix.uni.2.1 i y hk).2
/-- a check, by what stays true. -/
theorem lmcheckI (now held : Int) (key : ByteArray) (cost : Int) (hs : key.size ≤ maxLen) (hh : inR held) (hc : inR cost) (w : World) (h : LmAt w N s) (hi : LmI N s now m) (hm : m + 2097153 ≤ 576460752303423488) :
    Calls Tryz.prog 24 #[.pointer (some ⟨N.l, 0, none⟩), .int .i64 now, .int .i64 held, .string key, .int .i64 cost] w fun e w' => ∃ v, e = .returned (.tuple #[ansT (s.check N now held key cost).2.1, v]) ∧
      w'.ownsRow w.heap.size 70 4 v (s.check N now held key cost).2.2.length (evL now (s.check N now held key cost).2.2) ∧ LmAt w' N (s.check N now held key cost).1 ∧ Fr N.all w w' := by
  have ht := hi.t0
  have hmm := hi.m
  refine lmcheck_any now held key cost hs (by unfold inR; omega) hh hc w h ⟨by have := hi.al; omega, by have := hi.de; omega, by have := hi.ba; omega⟩ (fun _ => ⟨(hi.seen key cost).g, fun x hx => ?_, ((hi.seen key cost).adm (by omega) key).g⟩)
  have := h.keys x hx
  unfold maxLen
  omega
theorem lmpeekI (now held : Int) (key : ByteArray) (cost : Int) (hs : key.size ≤ maxLen) (hh : inR held) (hc : inR cost) (w : World) (h : LmAt w N s) (hi : LmI N s now m) :
    Calls Tryz.prog 22 #[.pointer (some ⟨N.l, 0, none⟩), .int .i64 now, .int .i64 held, .string key, .int .i64 cost] w fun e w' => e = .returned (ansT (s.peek N now held key cost)) ∧ LmAt w' N (s.peeked N now held cost) ∧ Fr N.parts w w' := by
  have ht := hi.t0
  exact lmpeek_any now held key cost hs (by unfold inR; omega) hh hc w h (fun _ => ⟨hi.to.g, fun c hc => hi.to.resi hc⟩)
end
end Go.Proofs.YtbgcpljekcagiaaGreat
/- The laws of layer 12: their own functions Gap and cost. -/
namespace Go.Proofs.YtbgcpljekcagiaaGreat
set_option linter.unusedSimpArgs false
set_option linter.unusedVariables false
set_option maxRecDepth 100000
open Go.ChangeShapes Go.WideShapes Go.ChangeAt Go.RowKit
open Ar (inR)
/-- how much later a call is. -/
def gapL (n : Int) : Int := if n % 2 = 1 then n / 2 % 1024 else n / 2 % 16
theorem gapL_bd (n : Int) : 0 ≤ gapL n ∧ gapL n ≤ 1023 := by unfold gapL; split <;> omega
set_option maxHeartbeats 400000 in
theorem gapL_any (n : Int) (w : World) : Calls Tryz.prog 20 #[.int .i64 n] w fun e w' => e = .returned (.int .i64 (gapL n)) ∧ w = w' := by
  obtain ⟨m, hm⟩ : ∃ m, m = n / 2 := ⟨_, rfl⟩
  obtain ⟨q, hq⟩ : ∃ q, q = n % 2 := ⟨_, rfl⟩
  have e1 : bits .and .i64 n 1 = q := by rw [G.i64_mask1, hq]
  obtain ⟨x, hx⟩ : ∃ x, x = m % 1024 := ⟨_, rfl⟩
  obtain ⟨y, hy⟩ : ∃ y, y = m % 16 := ⟨_, rfl⟩
  have e2 : bits .and .i64 m 1023 = x := by rw [i64_mask10, hx]
  have e3 : bits .and .i64 m 15 = y := by rw [i64_mask4, hy]
  have e0 : n / 2 = m := hm.symm
  have g : gapL n = if q = 1 then x else y := by unfold gapL; rw [← hq, ← hm, hx, hy]
  rw [g]
  by_cases h : q = 1
  · have t : (q == 1) = true := by simpa using h
    have gg : (if q = 1 then x else y) = x := if_pos h
    rw [gg]
    clear hm hq hx hy g h gg
    go_enter Tryz.func20, Tryz.ntmps20
    go_wp2
    go_ret
    exact ⟨rfl, rfl⟩
  · have t : (q == 1) = false := by simpa using h
    have gg : (if q = 1 then x else y) = y := if_neg h
    rw [gg]
    clear hm hq hx hy g h gg
    go_enter Tryz.func20, Tryz.ntmps20
    go_wp2
    go_ret
    exact ⟨rfl, rfl⟩
/-- what a call asks for, by a rule's burst. -/
def costL (B n : Int) : Int := if n % 8 = 7 then n / 8 % 64 else n / 8 % 32 % B + 1
theorem costL_bd {B n : Int} (hB : 1 ≤ B ∧ B ≤ 32) : 0 ≤ costL B n ∧ costL B n ≤ 63 := by
  unfold costL
  split
  · omega
  · have := Int.emod_nonneg (n / 8 % 32) (show B ≠ 0 by omega)
    have := Int.emod_lt_of_pos (n / 8 % 32) (show 0 < B by omega)
    omega
set_option maxHeartbeats 1000000 in
theorem costL_any (L W B S C R Wi T : Int) (sm : Bool) (n : Int) (hB : 1 ≤ B ∧ B ≤ 32) (w : World) :
    Calls Tryz.prog 21 #[.agg #[.int .i64 L, .int .i64 W, .int .i64 B, .int .i64 S, .int .i64 C, .int .i64 R, .int .i64 Wi, .int .i64 T, .bool sm], .int .i64 n] w fun e w' => e = .returned (.int .i64 (costL B n)) ∧ Below w.heap.size w w' := by
  obtain ⟨m, hm⟩ : ∃ m, m = n / 8 := ⟨_, rfl⟩
  obtain ⟨q, hq⟩ : ∃ q, q = n % 8 := ⟨_, rfl⟩
  have e1 : bits .and .i64 n 7 = q := by rw [i64_mask3, hq]
  obtain ⟨x, hx⟩ : ∃ x, x = m % 64 := ⟨_, rfl⟩
  obtain ⟨y, hy⟩ : ∃ y, y = m % 32 := ⟨_, rfl⟩
  have e2 : bits .and .i64 m 63 = x := by rw [i64_mask6, hx]
  have e3 : bits .and .i64 m 31 = y := by rw [i64_mask5, hy]
  have e0 : n / 8 = m := hm.symm
  have hyb : 0 ≤ y ∧ y ≤ 31 := by omega
  obtain ⟨r, hr⟩ : ∃ r, r = y % B := ⟨_, rfl⟩
  have hrb : 0 ≤ r ∧ r < B := by rw [hr]; exact ⟨Int.emod_nonneg _ (by omega), Int.emod_lt_of_pos _ (by omega)⟩
  have er : y % B = r := hr.symm
  have er0 : y.tmod B = r := by rw [Int.tmod_eq_emod_of_nonneg hyb.1, hr]
  have ewr : IntKind.i64.wrap r = r := by rw [IntKind.wrap_i64]; omega
  have ewc : IntKind.i64.wrap (r + 1) = r + 1 := by rw [IntKind.wrap_i64]; omega
  have hB0 : ¬ B = 0 := by omega
  obtain ⟨w1, hw1, k1, l1, s1⟩ := box_new w #[.int .i64 L, .int .i64 W, .int .i64 B, .int .i64 S, .int .i64 C, .int .i64 R, .int .i64 Wi, .int .i64 T, .bool sm] 29
  have kr := k1.rd
  have L1 := Lib.hid l1
  have g : costL B n = if q = 7 then x else r + 1 := by unfold costL; rw [← hq, ← hm, hx, hr, hy]
  rw [g]
  by_cases h : q = 7
  · have t : (q == 7) = true := by simpa using h
    have gg : (if q = 7 then x else r + 1) = x := if_pos h
    rw [gg]
    clear hm hq hx hy g h gg hr k1 l1 s1
    go_enter Tryz.func21, Tryz.ntmps21
    go_wp2
    go_ret
    exact ⟨rfl, L1.out⟩
  · have t : (q == 7) = false := by simpa using h
    have gg : (if q = 7 then x else r + 1) = r + 1 := if_neg h
    rw [gg]
    clear hm hq hx hy g h gg hr k1 l1 s1
    go_enter Tryz.func21, Tryz.ntmps21
    go_wp2
    go_ret
    exact ⟨rfl, L1.out⟩
end Go.Proofs.YtbgcpljekcagiaaGreat
/- The laws of layer 12: what answers tell. -/
namespace Go.Proofs.YtbgcpljekcagiaaGreat
set_option linter.unusedSimpArgs false
set_option linter.unusedVariables false
set_option maxRecDepth 100000
open Go.ChangeShapes Go.WideShapes Go.ChangeAt Go.RowKit
open Ar (inR)
/-- what of a limiter's numbers its answers ask for. -/
structure LmB (N : LmN) : Prop where
  BL : N.B ≤ N.L
  RL : N.R.L = N.L
  ns : (N.R.n : Int) * (N.R.s : Int) ≤ 1152921504606846976
section
variable {N : LmN} {s : LmS} {now m cost : Int}
theorem LmI.wait (h : LmI N s now m) (hb : LmB N) (key : ByteArray) (hc : 1 ≤ cost ∧ cost ≤ N.B) :
    0 ≤ waitR N.R s.r key cost ∧ (waitR N.R s.r key cost = 0 ↔ estZ N.R s.r key + cost ≤ N.L) := by
  obtain ⟨w, hw⟩ := h.rg
  have hm := h.m
  have hB := h.B
  have ht := h.t1
  have h0 := h.t0
  have hl := hb.BL
  have hns := hb.ns
  have hrl := hb.RL
  have hf := wait_facts (s := key) hw h.few (c := cost) (by omega) (by omega) (by omega)
  rcases hf with ⟨h1, h2⟩ | ⟨h1, nx, _, _, _, h2, _⟩
  · rw [h2]; omega
  · omega
theorem clamp_le (a : Int) {L : Int} (ha : 0 ≤ a) (hL : L < 9223372036854775807) : clamp a ≤ L ↔ a ≤ L := by
  unfold clamp
  split
  · omega
  · split <;> omega
end
end Go.Proofs.YtbgcpljekcagiaaGreat
