import Derived.Shelf.Abstract
import Derived.Shelf.RegionOpen
import Derived.WalkKit
import Derived.OwnWalkIn
import Derived.TacticsInMore
import Derived.LoopNIn
import Derived.LoopIn
import Derived.Test.YtbgcpljekcagiaaGreatZIx
import Derived.Test.YtbgcpljekcagiaaGreatKpB
import Derived.Test.YtbgcpljekcagiaaGreatZSlN
/- The contracts of layer 10 (pool): All. -/
namespace Go.Proofs.YtbgcpljekcagiaaGreat
set_option linter.unusedSimpArgs false
set_option linter.unusedVariables false
set_option maxRecDepth 100000
open Go.ChangeShapes Go.WideShapes Go.ChangeAt Go.RowKit Go.Shelf
attribute [local go_sem] Oper.semAt_some
/-- the keys and their cells, by the places below k. -/
def plL (K : Nat → Option ByteArray) (C : List Cel) (k : Nat) : List (ByteArray × Cel) := (List.range k).filterMap fun i => (K i).map fun s => (s, C.getD i (0, 0, 0, 0))
theorem plL_no {K : Nat → Option ByteArray} {C : List Cel} {k : Nat} (h : K k = none) : plL K C (k + 1) = plL K C k := by
  simp [plL, List.range_succ, h]
theorem plL_yes {K : Nat → Option ByteArray} {C : List Cel} {k : Nat} {s : ByteArray} {c : Cel} (h : K k = some s) (hc : C[k]? = some c) : plL K C (k + 1) = plL K C k ++ [(s, c)] := by
  simp [plL, List.range_succ, h, hc]
theorem plL_prefix {K : Nat → Option ByteArray} {C : List Cel} {k n : Nat} (h : k ≤ n) : plL K C k <+: plL K C n := by
  obtain ⟨m, rfl⟩ : ∃ m, n = k + m := ⟨n - k, by omega⟩
  unfold plL
  rw [List.range_add, List.filterMap_append]
  exact List.prefix_append _ _
theorem KeepB.pl {W w : World} {Q : PlN} {σ : KSt} {C : List Cel} (hk : KeepB Q.all W w) (h : PlAt W Q σ C) : PlAt w Q σ C :=
  ⟨hk _ _ _ (Or.inr (Or.inr rfl)) h.hp, hk _ _ _ (Or.inl (Or.inr rfl)) h.hc, h.len, hk.idx h.ix (fun k hk => by rcases hk with hk | hk; exact Or.inl (Or.inl hk); exact Or.inr (Or.inl hk)), h.n1, h.ne⟩
abbrev plEnc (x : ByteArray × Cel) : Array Value := #[.string x.1, celV x.2]
set_option maxRecDepth 100000 in
set_option maxHeartbeats 2000000 in
theorem plall_any (Q : PlN) (σ : KSt) (C : List Cel) (w0 : World) (h : PlAt w0 Q σ C) : IterB Tryz.prog 117 #[.pointer (some ⟨Q.p, 0, none⟩)] plEnc (KeepB Q.all) (plL σ.K C Q.N.n) w0 := by
  intro l J Jx W hW hJ hY h0
  have H0 := Lib.hid (h.keep hW)
  clear h
  have hn := H0.out.n1
  have HY := Lib.hid hY
  have HJ := Lib.hid hJ
  have t0 : (Q.N.n : Int) ≤ 1024 := by omega
  have k := H0.out.hp.rd
  clear hn hY hJ hW
  refine callsIn_of_wp Tryz.func117 rfl trivial ?_ rfl
  simp only [Tryz.ntmps117, List.size_toArray, List.length_cons, List.length_nil, Nat.reduceAdd, Nat.reduceSub, Array.replicate_succ, Array.replicate_zero, List.push_toArray, List.append_toArray, List.nil_append, List.cons_append]
  have hnf : ∀ w : World, (binOp BinOp.eql 196 (Value.func (Fn.yield l) #[] #[]) Value.nilFunc).run Tryz.prog w = .ok (.bool false) w := fun w => by
    first | rfl | (simp [binOp, go_sem]) 
  gi_wp2
  gi_loopw [19] (fun i wr => ∃ k : Nat, k ≤ Q.N.n ∧ i = .int .i64 (k : Int) ∧ J (plL σ.K C k) wr ∧ Hid (PlAt wr Q σ C)) (fun i _ => Q.N.n - (intOf i).toNat)
  case atStart => exact ⟨0, by omega, rfl, h0, H0⟩
  case round =>
    obtain ⟨i, hi, rfl, hj, HP⟩ := hrel
    clear k h0
    by_cases hlt : i < Q.N.n
    · have hil : i < C.length := by rw [HP.out.len]; exact hlt
      obtain ⟨c0, hc0⟩ : ∃ c0, C[i]? = some c0 := ⟨_, List.getElem?_eq_getElem hil⟩
      obtain ⟨kc0, kc1, kc2, kc3⟩ := HP.out.cell hc0
      obtain ⟨w1, hw1, k1, l1, s1⟩ := box_new wr #[.int .i64 0, .int .i64 0, .int .i64 0, .int .i64 0] 64
      have hset := four_setC (v0 := .int .i64 c0.1) (v1 := .int .i64 c0.2.1) (v2 := .int .i64 c0.2.2.1) (v3 := .int .i64 c0.2.2.2) k1
      obtain ⟨w2, hw2⟩ : ∃ w2, w2 = setObj w1 wr.heap.size (.cells #[.int .i64 c0.1, .int .i64 c0.2.1, .int .i64 c0.2.2.1, .int .i64 c0.2.2.2] 64 (0, 0)) := ⟨_, rfl⟩
      rw [← hw2] at hset
      have k2 : Blk w2 wr.heap.size 64 #[.int .i64 c0.1, .int .i64 c0.2.1, .int .i64 c0.2.2.1, .int .i64 c0.2.2.2] := by rw [hw2]; exact setObj_at (lt_of_block k1) _
      have b2 : Below wr.heap.size wr w2 := by
        rw [hw2]; exact l1.trans ((Fr.setObj (F := fun k => k = wr.heap.size) (Fr.refl _ _) rfl _).below l1.size (fun k hk => by omega))
      have B2 := Lib.hid b2
      have K2 := Lib.hid k2
      have P2 := Lib.hid (HP.out.keep b2)
      have HW2 := Lib.hid hset
      have k := HP.out.hp.rd
      have kp1 := (HP.out.keep l1).hp.rd
      have n1 : Q.p ≠ wr.heap.size := fun e => by have := HP.out.lt _ (Or.inr (Or.inr rfl)); omega
      have n2 : wr.heap.size ≠ Q.p := fun e => n1 e.symm
      have kw := k1.wr
      have kr := k1.rd
      have t1 : (i : Int) < (Q.N.n : Int) := by omega
      have HC := Lib.hid hc0
      have HL := Lib.hid hlt
      have HJr := Lib.hid hj
      have HJK := Lib.hid (show ∀ s wx, J s wr → Below wr.heap.size wr wx → J s wx from fun s wx hs hb => HJ.out s wr wx none hs ⟨hb.os, hb.tape, hb.output, hb.size, fun k hk _ => hb.block k hk⟩ (fun r e => by cases e))
      clear hset k2 b2 hil hlt hc0 hj k1 l1 s1 hw2
      cases hK : σ.K i with
      | none =>
        have CK := Lib.hid (key_no (i : Int) w2 P2.out.ix.ks (by unfold hasB; simp [hK]))
        have HKK := Lib.hid hK
        clear hK
        gi_wp2_with (refine ⟨trivial, rfl, ?_⟩; gi_at_call 137; rw [HW2.out]; refine (callsIn_wide.2 CK.out).mono ?_; rintro e w3 ⟨rfl, rfl⟩)
        refine ⟨fun _ h => (by cases h), ?_⟩
        gi_wp2
        go_roundw
        case rel => exact ⟨i + 1, HL.out, by go_num, by rw [plL_no HKK.out]; exact HJK.out _ _ HJr.out B2.out, P2⟩
        case measure => have := HL.out; simp [intOf]; omega
      | some s =>
        have CK := Lib.hid (key_yes i s w2 P2.out.ix.ks HL.out hK)
        have HKK := Lib.hid hK
        clear hK
        gi_wp2
        refine ⟨trivial, rfl, ?_⟩
        rw [HW2.out]
        refine (callsIn_wide.2 CK.out).mono ?_
        rintro e w3 ⟨rfl, b3⟩
        have B3 := Lib.hid (below_in B2.out b3)
        have P3 := Lib.hid (P2.out.keep b3)
        have k3 := (K2.out.keep b3).rd
        have e3 := plL_yes HKK.out HC.out
        obtain ⟨fn, tmps, assign, body, hy, hR⟩ := HY.out (plL σ.K C i) (s, c0) w3 (HJK.out _ _ HJr.out B3.out) (by rw [← e3]; exact plL_prefix HL.out)
        rw [← e3] at hR
        have HR := Lib.hid hR
        clear b3 hR e3
        try dsimp only at hy
        gi_wp2
        refine ⟨rfl, HR.out.mono ?_⟩
        rintro e w4 (⟨rfl, hJ3, hk3⟩ | ⟨rfl, hJx3⟩)
        · have P4 := Lib.hid (hk3.pl P3.out)
          have HJ4 := Lib.hid hJ3
          clear hJ3 hk3
          gi_wp2
          go_roundw
          case rel => exact ⟨i + 1, HL.out, by go_num, HJ4.out, P4⟩
          case measure => have := HL.out; simp [intOf]; omega
        · have HJ4 := Lib.hid hJx3
          clear hJx3
          gi_wp2
          refine bodyPost_ret (results_none rfl _ _ _) rfl ?_
          exact ⟨⟨_, rfl⟩, .inr ⟨plL σ.K C (i + 1), _, plL_prefix HL.out, HJ4.out, Below.refl _ _⟩⟩
    · obtain rfl : i = Q.N.n := by omega
      gi_wp2
      go_end0
      exact ⟨⟨_, rfl⟩, .inl hj⟩
end Go.Proofs.YtbgcpljekcagiaaGreat
/- The contracts of layer 8 (summary): All. -/
namespace Go.Proofs.YtbgcpljekcagiaaGreat
set_option linter.unusedSimpArgs false
set_option linter.unusedVariables false
set_option maxRecDepth 100000
open Go.ChangeShapes Go.WideShapes Go.ChangeAt Go.RowKit Go.Shelf
attribute [local go_sem] Oper.semAt_some
theorem KeepB.sm {W w : World} {Q : SmN} {L : List Ent} {tot : Int} {σ : KSt} (hk : KeepB Q.all W w) (h : SmAt W Q L tot σ) : SmAt w Q L tot σ := by
  obtain ⟨R, h1, h2⟩ := h.hg
  exact ⟨hk _ _ _ (Or.inl (Or.inr (Or.inl rfl))) h.hs, ⟨R, hk _ _ _ (Or.inl (Or.inr (Or.inr rfl))) h1, h2⟩, hk.idx h.ix (fun k hk => by rcases hk with hk | hk; exact Or.inl (Or.inl hk); exact Or.inr hk), h.n1, h.ne, h.ok⟩
theorem KeepB.smM {W w : World} {Q : SmN} {M : List Tri} {tot : Int} (hk : KeepB Q.all W w) (h : SmM W Q M tot) : SmM w Q M tot := by
  obtain ⟨L, σ, h1, h2⟩ := h
  exact ⟨L, σ, hk.sm h1, h2⟩
end Go.Proofs.YtbgcpljekcagiaaGreat
