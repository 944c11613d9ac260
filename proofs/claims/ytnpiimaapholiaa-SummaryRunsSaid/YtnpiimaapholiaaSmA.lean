import Derived.Shelf.Abstract
import Derived.Shelf.RegionOpen
import Derived.WalkKit
import Derived.OwnWalkIn
import Derived.TacticsInMore
import Derived.LoopNIn
import Derived.LoopIn
import Derived.Test.YtnpiimaapholiaaZSm
import Derived.Test.YtnpiimaapholiaaKpB
/- The contracts of layer 8 (summary): All. -/
namespace Go.Proofs.Ytnpiimaapholiaa
set_option linter.unusedSimpArgs false
set_option linter.unusedVariables false
open Go.ChangeShapes Go.WideShapes Go.ChangeAt Go.RowKit Go.Shelf
attribute [local go_sem] Oper.semAt_some
abbrev smEnc (x : Tri) : Array Value := #[.agg #[.string x.1, .int .i64 x.2.1, .int .i64 x.2.2]]
theorem KeepB.sm {W w : World} {Q : SmN} {L : List Ent} {tot : Int} {σ : KSt} (hk : KeepB Q.all W w) (h : SmAt W Q L tot σ) : SmAt w Q L tot σ := by
  obtain ⟨R, h1, h2⟩ := h.hg
  exact ⟨hk _ _ _ (Or.inl (Or.inr (Or.inl rfl))) h.hs, ⟨R, hk _ _ _ (Or.inl (Or.inr (Or.inr rfl))) h1, h2⟩, hk.idx h.ix (fun k hk => by rcases hk with hk | hk; exact Or.inl (Or.inl hk); exact Or.inr hk), h.n1, h.ne, h.ok⟩
theorem KeepB.smM {W w : World} {Q : SmN} {M : List Tri} {tot : Int} (hk : KeepB Q.all W w) (h : SmM W Q M tot) : SmM w Q M tot := by
  obtain ⟨L, σ, h1, h2⟩ := h
  exact ⟨L, σ, hk.sm h1, h2⟩
theorem take_more {α : Type} {l : List α} {i : Nat} {x : α} (h : l[i]? = some x) : l.take (i + 1) = l.take i ++ [x] := by
  rw [List.take_add_one, h]; rfl
/-- what an iterator's yield answers, as one way. -/
def YGo (J : World → Prop) (K : World → World → Prop) (Jx : World → Prop) (W W' : World) (b : Bool) : Prop := (b = true ∧ J W' ∧ K W W') ∨ (b = false ∧ Jx W')
set_option maxRecDepth 100000 in
set_option maxHeartbeats 4000000 in
theorem small_any (Q : SmN) (L : List Ent) (tot : Int) (σ : KSt) (w0 : World) (h : SmAt w0 Q L tot σ) : IterB Try.prog 17 #[.pointer (some ⟨Q.s, 0, none⟩)] smEnc (KeepB Q.all) (L.map Ent.c) w0 := by
  intro l J Jx W hW hJ hY h0
  have H0 := Lib.hid (h.keep hW)
  clear h
  have hn := H0.out.n1
  have hle := H0.out.le
  have HY := Lib.hid hY
  have HJ := Lib.hid hJ
  obtain ⟨m, hm⟩ : ∃ m, m = L.length := ⟨_, rfl⟩
  have HM := Lib.hid hm
  have t0 : (m : Int) ≤ 64 := by omega
  clear hn hle hY hJ hW hm
  refine callsIn_of_wp Try.func17 rfl trivial ?_ rfl
  simp only [Try.ntmps17, List.size_toArray, List.length_cons, List.length_nil, Nat.reduceAdd, Nat.reduceSub, Array.replicate_succ, Array.replicate_zero, List.push_toArray, List.append_toArray, List.nil_append, List.cons_append]
  have hnf : ∀ w : World, (binOp BinOp.eql 76 (Value.func (Fn.yield l) #[] #[]) Value.nilFunc).run Try.prog w = .ok (.bool false) w := fun w => by
    first | rfl | (simp [binOp, go_sem]) 
  gi_wp2
  gi_loopw [4] (fun i wr => ∃ k : Nat, k ≤ m ∧ i = .int .i64 (k : Int) ∧ J ((L.map Ent.c).take k) wr ∧ Hid (SmAt wr Q L tot σ)) (fun i _ => m - (intOf i).toNat)
  case atStart => exact ⟨0, by omega, rfl, h0, H0⟩
  case round =>
    obtain ⟨i, hi, rfl, hj, HP⟩ := hrel
    clear h0
    by_cases hlt : i < m
    · obtain ⟨x, hx⟩ : ∃ x, L[i]? = some x := ⟨_, List.getElem?_eq_getElem (by rw [← HM.out]; exact hlt)⟩
      have hu := HP.out.ix.uni
      have hkey := HP.out.ok.key x (List.mem_of_getElem? hx)
      have hsz := hu.2.1 x.p x.k hkey
      have CK := Lib.hid (fun wx (hb : Below wr.heap.size wr wx) => key_yes x.p x.k wx ((HP.out.keep hb).ix.ks) hsz.1 hkey)
      have HX := Lib.hid hx
      have HLT := Lib.hid hlt
      have HJr := Lib.hid hj
      have HJK := Lib.hid (show ∀ s wx, J s wr → Below wr.heap.size wr wx → J s wx from fun s wx hs hb => HJ.out s wr wx none hs ⟨hb.os, hb.tape, hb.output, hb.size, fun k hk _ => hb.block k hk⟩ (fun r e => by cases e))
      have k := HP.out.hs.rd
      rw [← HM.out] at k
      have t1 : (0 : Int) ≤ (i : Int) := by omega
      have t2 : (i : Int) < (m : Int) := by omega
      clear hu hkey hsz hx hj hlt
      gi_wp2
      clear k
      refine wpIn_wide.2 ?_
      have HS := Lib.hid (show ∀ wx, Below wr.heap.size wr wx → (fun w' : World => (∀ i, w'.cell? ⟨Q.s, i, none⟩ = (smC Q m tot)[i]?) ∧ w'.cell? ⟨Q.g, i * 3 + 2, none⟩ = some (.int .i64 (x.p : Int))) wx from fun wx hb => ⟨by have := (HP.out.keep hb).hs.rd; rw [← HM.out] at this; exact this, ((HP.out.keep hb).cell HX.out).2.2⟩)
      have B1 := Lib.hid (show Below wr.heap.size wr wr.drew from below_draws (Below.refl _ _) 1)
      refine wp_region_held_drew (S := (fun w' : World => (∀ i, w'.cell? ⟨Q.s, i, none⟩ = (smC Q m tot)[i]?) ∧ w'.cell? ⟨Q.g, i * 3 + 2, none⟩ = some (.int .i64 (x.p : Int)))) (by kernel_rfl) (HS.out _ B1.out) (fun hHeld => ?_)
      refine wpAnyH_take (i := 0) (oi := ?_) (v := ?_) ?_ ?_ ?_ ?_ ?_ ?_ ?_ ?_
      rotate_left 2
      · simp only [List.getElem?_toArray, List.getElem?_cons_succ, List.getElem?_cons_zero]; rfl
      · kernel_rfl
      · kernel_rfl
      · kernel_rfl
      · exact fun _ _ _ h => h
      · refine Or.inl ⟨by rfl, ?_⟩
        intro w' hSw
        (try dsimp only at hSw)
        go_simp
        all_goals (with_reducible rfl)
      · assumption
      try simp only [Act.put, List.setIfInBounds_toArray, List.set_cons_zero, List.set_cons_succ]
      refine wpAnyH_take (i := 1) (oi := ?_) (v := ?_) ?_ ?_ ?_ ?_ ?_ ?_ ?_ ?_
      rotate_left 2
      · simp only [List.getElem?_toArray, List.getElem?_cons_succ, List.getElem?_cons_zero]; rfl
      · kernel_rfl
      · kernel_rfl
      · kernel_rfl
      · exact fun _ _ _ h => h
      · refine Or.inl ⟨by rfl, ?_⟩
        intro w' hSw
        (try dsimp only at hSw)
        go_simp
        all_goals (with_reducible rfl)
      · assumption
      try simp only [Act.put, List.setIfInBounds_toArray, List.set_cons_zero, List.set_cons_succ]
      refine wpAnyH_take (i := 2) (oi := ?_) (v := ?_) ?_ ?_ ?_ ?_ ?_ ?_ ?_ ?_
      rotate_left 2
      · simp only [List.getElem?_toArray, List.getElem?_cons_succ, List.getElem?_cons_zero]; rfl
      · kernel_rfl
      · kernel_rfl
      · kernel_rfl
      · exact fun _ _ _ h => h
      · refine Or.inl ⟨by rfl, ?_⟩
        intro w' hSw
        (try dsimp only at hSw)
        go_simp
        all_goals (with_reducible rfl)
      · assumption
      try simp only [Act.put, List.setIfInBounds_toArray, List.set_cons_zero, List.set_cons_succ]
      refine wpAnyH_take (i := 3) (oi := ?_) (v := ?_) ?_ ?_ ?_ ?_ ?_ ?_ ?_ ?_
      rotate_left 2
      · simp only [List.getElem?_toArray, List.getElem?_cons_succ, List.getElem?_cons_zero]; rfl
      · kernel_rfl
      · kernel_rfl
      · kernel_rfl
      · exact fun _ _ _ h => h
      · refine Or.inl ⟨by rfl, ?_⟩
        intro w' hSw
        (try dsimp only at hSw)
        go_simp
        all_goals (with_reducible rfl)
      · assumption
      try simp only [Act.put, List.setIfInBounds_toArray, List.set_cons_zero, List.set_cons_succ]
      refine wpAnyH_take (i := 4) (oi := ?_) (v := ?_) ?_ ?_ ?_ ?_ ?_ ?_ ?_ ?_
      rotate_left 2
      · simp only [List.getElem?_toArray, List.getElem?_cons_succ, List.getElem?_cons_zero]; rfl
      · kernel_rfl
      · kernel_rfl
      · kernel_rfl
      · exact fun _ _ _ h => h
      · refine Or.inl ⟨by rfl, ?_⟩
        intro w' hSw
        (try dsimp only at hSw)
        go_simp
        all_goals (with_reducible rfl)
      · assumption
      try simp only [Act.put, List.setIfInBounds_toArray, List.set_cons_zero, List.set_cons_succ]
      refine wpAnyH_take (i := 5) (oi := ?_) (v := ?_) ?_ ?_ ?_ ?_ ?_ ?_ ?_ ?_
      rotate_left 2
      · simp only [List.getElem?_toArray, List.getElem?_cons_succ, List.getElem?_cons_zero]; rfl
      · kernel_rfl
      · kernel_rfl
      · kernel_rfl
      · exact fun _ _ _ h => h
      · refine Or.inl ⟨by rfl, ?_⟩
        intro w' hSw
        (try dsimp only at hSw)
        go_simp
        all_goals (with_reducible rfl)
      · assumption
      try simp only [Act.put, List.setIfInBounds_toArray, List.set_cons_zero, List.set_cons_succ]
      refine wpAnyH_take (i := 6) (oi := ?_) (v := ?_) ?_ ?_ ?_ ?_ ?_ ?_ ?_ ?_
      rotate_left 2
      · simp only [List.getElem?_toArray, List.getElem?_cons_succ, List.getElem?_cons_zero]; rfl
      · kernel_rfl
      · kernel_rfl
      · kernel_rfl
      · exact fun _ _ _ h => h
      · refine Or.inl ⟨by rfl, ?_⟩
        intro w' hSw
        (try dsimp only at hSw)
        go_simp
        all_goals (with_reducible rfl)
      · assumption
      try simp only [Act.put, List.setIfInBounds_toArray, List.set_cons_zero, List.set_cons_succ]
      refine wpAnyH_take (i := 7) (oi := ?_) (v := ?_) ?_ ?_ ?_ ?_ ?_ ?_ ?_ ?_
      rotate_left 2
      · simp only [List.getElem?_toArray, List.getElem?_cons_succ, List.getElem?_cons_zero]; rfl
      · kernel_rfl
      · kernel_rfl
      · kernel_rfl
      · exact fun _ _ _ h => h
      · refine Or.inl ⟨by rfl, ?_⟩
        intro w' hSw
        (try dsimp only at hSw)
        go_simp
        all_goals (with_reducible rfl)
      · assumption
      try simp only [Act.put, List.setIfInBounds_toArray, List.set_cons_zero, List.set_cons_succ]
      refine wpAnyH_take (i := 8) (oi := ?_) (v := ?_) ?_ ?_ ?_ ?_ ?_ ?_ ?_ ?_
      rotate_left 2
      · simp only [List.getElem?_toArray, List.getElem?_cons_succ, List.getElem?_cons_zero]; rfl
      · kernel_rfl
      · kernel_rfl
      · kernel_rfl
      · exact fun _ _ _ h => h
      · refine Or.inl ⟨by rfl, ?_⟩
        intro w' hSw
        (try dsimp only at hSw)
        go_simp
        all_goals (with_reducible rfl)
      · assumption
      try simp only [Act.put, List.setIfInBounds_toArray, List.set_cons_zero, List.set_cons_succ]
      refine wpAnyH_take (i := 9) (oi := ?_) (v := ?_) ?_ ?_ ?_ ?_ ?_ ?_ ?_ ?_
      rotate_left 2
      · simp only [List.getElem?_toArray, List.getElem?_cons_succ, List.getElem?_cons_zero]; rfl
      · kernel_rfl
      · kernel_rfl
      · kernel_rfl
      · exact fun _ _ _ h => h
      · refine Or.inl ⟨by rfl, ?_⟩
        intro w' hSw
        (try dsimp only at hSw)
        go_simp
        all_goals (with_reducible rfl)
      · assumption
      try simp only [Act.put, List.setIfInBounds_toArray, List.set_cons_zero, List.set_cons_succ]
      refine wpAnyH_take (i := 10) (oi := ?_) (v := ?_) ?_ ?_ ?_ ?_ ?_ ?_ ?_ ?_
      rotate_left 2
      · simp only [List.getElem?_toArray, List.getElem?_cons_succ, List.getElem?_cons_zero]; rfl
      · kernel_rfl
      · kernel_rfl
      · kernel_rfl
      · exact fun _ _ _ h => h
      · refine Or.inl ⟨by rfl, ?_⟩
        intro w' hSw
        (try dsimp only at hSw)
        go_simp
        all_goals (with_reducible rfl)
      · assumption
      try simp only [Act.put, List.setIfInBounds_toArray, List.set_cons_zero, List.set_cons_succ]
      refine wpAnyH_take (i := 11) (oi := ?_) (v := ?_) ?_ ?_ ?_ ?_ ?_ ?_ ?_ ?_
      rotate_left 2
      · simp only [List.getElem?_toArray, List.getElem?_cons_succ, List.getElem?_cons_zero]; rfl
      · kernel_rfl
      · kernel_rfl
      · kernel_rfl
      · exact fun _ _ _ h => h
      · refine Or.inl ⟨by rfl, ?_⟩
        intro w' hSw
        (try dsimp only at hSw)
        go_simp
        all_goals (with_reducible rfl)
      · assumption
      try simp only [Act.put, List.setIfInBounds_toArray, List.set_cons_zero, List.set_cons_succ]
      refine wpAnyH_ready (rs := [12]) (by kernel_rfl) (by simp) ?_
      refine AllReadyH.cons (o := ?_) ?_ ?_ ?_
      rotate_left 1
      · simp only [List.getElem?_toArray, List.getElem?_cons_succ, List.getElem?_cons_zero]; rfl
      rotate_left 1
      · exact AllReadyH.nil
      intro K hK
      go_simp
      ((with_reducible refine (CK.out wr.drew B1.out).mono ?_); rintro e w2 ⟨rfl, b2⟩; have B2 := Lib.hid (G.below_on B1.out b2); clear b2)
      refine hK.out _ _ (HS.out _ B2.out) (fun hHeld => ?_)
      clear hK K
      try simp only [Act.put, List.setIfInBounds_toArray, List.set_cons_zero, List.set_cons_succ]
      refine wpAnyH_take (i := 13) (oi := ?_) (v := ?_) ?_ ?_ ?_ ?_ ?_ ?_ ?_ ?_
      rotate_left 2
      · simp only [List.getElem?_toArray, List.getElem?_cons_succ, List.getElem?_cons_zero]; rfl
      · kernel_rfl
      · kernel_rfl
      · kernel_rfl
      · exact fun _ _ _ h => h
      · refine Or.inl ⟨by rfl, ?_⟩
        intro w' hSw
        (try dsimp only at hSw)
        go_simp
        all_goals (with_reducible rfl)
      · assumption
      try simp only [Act.put, List.setIfInBounds_toArray, List.set_cons_zero, List.set_cons_succ]
      refine wpAnyH_take (i := 14) (oi := ?_) (v := ?_) ?_ ?_ ?_ ?_ ?_ ?_ ?_ ?_
      rotate_left 2
      · simp only [List.getElem?_toArray, List.getElem?_cons_succ, List.getElem?_cons_zero]; rfl
      · kernel_rfl
      · kernel_rfl
      · kernel_rfl
      · exact fun _ _ _ h => h
      · refine Or.inl ⟨by rfl, ?_⟩
        intro w' hSw
        (try dsimp only at hSw)
        go_simp
        all_goals (with_reducible rfl)
      · assumption
      try simp only [Act.put, List.setIfInBounds_toArray, List.set_cons_zero, List.set_cons_succ]
      refine wpAnyH_take (i := 15) (oi := ?_) (v := ?_) ?_ ?_ ?_ ?_ ?_ ?_ ?_ ?_
      rotate_left 2
      · simp only [List.getElem?_toArray, List.getElem?_cons_succ, List.getElem?_cons_zero]; rfl
      · kernel_rfl
      · kernel_rfl
      · kernel_rfl
      · exact fun _ _ _ h => h
      · refine Or.inl ⟨by rfl, ?_⟩
        intro w' hSw
        (try dsimp only at hSw)
        go_simp
        all_goals (with_reducible rfl)
      · assumption
      try simp only [Act.put, List.setIfInBounds_toArray, List.set_cons_zero, List.set_cons_succ]
      refine wpAnyH_take (i := 16) (oi := ?_) (v := ?_) ?_ ?_ ?_ ?_ ?_ ?_ ?_ ?_
      rotate_left 2
      · simp only [List.getElem?_toArray, List.getElem?_cons_succ, List.getElem?_cons_zero]; rfl
      · kernel_rfl
      · kernel_rfl
      · kernel_rfl
      · exact fun _ _ _ h => h
      · refine Or.inl ⟨by rfl, ?_⟩
        intro w' hSw
        (try dsimp only at hSw)
        go_simp
        all_goals (with_reducible rfl)
      · assumption
      try simp only [Act.put, List.setIfInBounds_toArray, List.set_cons_zero, List.set_cons_succ]
      refine wpAnyH_take (i := 17) (oi := ?_) (v := ?_) ?_ ?_ ?_ ?_ ?_ ?_ ?_ ?_
      rotate_left 2
      · simp only [List.getElem?_toArray, List.getElem?_cons_succ, List.getElem?_cons_zero]; rfl
      · kernel_rfl
      · kernel_rfl
      · kernel_rfl
      · exact fun _ _ _ h => h
      · refine Or.inl ⟨by rfl, ?_⟩
        intro w' hSw
        (try dsimp only at hSw)
        go_simp
        all_goals (with_reducible rfl)
      · assumption
      try simp only [Act.put, List.setIfInBounds_toArray, List.set_cons_zero, List.set_cons_succ]
      refine wpAnyH_done (by kernel_rfl) ?_ _
      clear hHeld
      have P2 := Lib.hid (HP.out.keep B2.out)
      have HJ2 := Lib.hid (HJK.out _ _ HJr.out B2.out)
      have hxM : (L.map Ent.c)[i]? = some x.c := by rw [List.getElem?_map, HX.out]; rfl
      have e3 := take_more hxM
      have hpre : (L.map Ent.c).take i ++ [x.c] <+: L.map Ent.c := by rw [← e3]; exact List.take_prefix _ _
      have HE3 := Lib.hid e3
      have HPR := Lib.hid hpre
      clear hxM e3 hpre
      gi_wp2
      have B3 := Lib.hid (show Below wr.heap.size wr w2.drew from below_draws B2.out 1)
      have P3 := Lib.hid (HP.out.keep B3.out)
      have k := P3.out.hs.rd
      rw [← HM.out] at k
      obtain ⟨c0, c1, c2⟩ := P3.out.cell HX.out
      obtain ⟨fn, tmps, assign, body, hy, hR⟩ := HY.out ((L.map Ent.c).take i) x.c w2.drew (HJK.out _ _ HJr.out B3.out) HPR.out
      rw [← HE3.out] at hR
      have HR := Lib.hid (hR.mono (fun e w' h => show ∃ b, e = .returned (.bool b) ∧ YGo (J ((L.map Ent.c).take (i + 1))) (KeepB Q.all) (Jx ((L.map Ent.c).take (i + 1))) w2.drew w' b from by
        rcases h with ⟨rfl, h1, h2⟩ | ⟨rfl, h1⟩
        · exact ⟨true, rfl, .inl ⟨rfl, h1, h2⟩⟩
        · exact ⟨false, rfl, .inr ⟨rfl, h1⟩⟩))
      clear hR c2 HJK
      have hy : (Instr.yield l #[.agg #[.string x.k, .int .i64 x.n, .int .i64 x.e]]).run Try.prog w2.drew = _ := hy
      gi_region_with (refine ⟨rfl, HR.out.mono ?_⟩; rintro e w4 ⟨b, rfl, hb⟩; have HB := Lib.hid hb; clear hb)
      all_goals
        clear k c0 c1 hy
        cases b with
        | true =>
          have HJ4 := Lib.hid (show J ((L.map Ent.c).take (i + 1)) w4 ∧ KeepB Q.all w2.drew w4 from by
            rcases HB.out with h | h
            · exact h.2
            · cases h.1)
          gi_wp2
          go_roundw
          case rel => exact ⟨i + 1, HLT.out, by go_num, HJ4.out.1, Lib.hid (HJ4.out.2.sm P3.out)⟩
          case measure => have := HLT.out; simp [intOf]; omega
        | false =>
          have HJ4 := Lib.hid (show Jx ((L.map Ent.c).take (i + 1)) w4 from by
            rcases HB.out with h | h
            · cases h.1
            · exact h.2)
          gi_wp2
          refine bodyPost_ret (results_none rfl _ _ _) rfl ?_
          exact ⟨⟨_, rfl⟩, .inr ⟨(L.map Ent.c).take (i + 1), _, List.take_prefix _ _, HJ4.out, Below.refl _ _⟩⟩
    · obtain rfl : i = m := by omega
      have k := HP.out.hs.rd
      rw [← HM.out] at k
      have t2 : decide ((i : Int) < (i : Int)) = false := by rw [decide_eq_false_iff_not]; omega
      have HJ2 := Lib.hid hj
      clear hj
      gi_wp2
      go_end0
      have := HJ2.out
      rw [HM.out, show L.length = (L.map Ent.c).length from (List.length_map ..).symm, List.take_length] at this
      exact ⟨⟨_, rfl⟩, .inl this⟩
/-- no summary: nothing comes. -/
theorem small_nil (w0 : World) : IterB Try.prog 17 #[.pointer none] smEnc (KeepB fun _ => False) [] w0 := by
  intro l J Jx W hW hJ hY h0
  clear hY hJ hW
  refine callsIn_of_wp Try.func17 rfl trivial ?_ rfl
  simp only [Try.ntmps17, List.size_toArray, List.length_cons, List.length_nil, Nat.reduceAdd, Nat.reduceSub, Array.replicate_succ, Array.replicate_zero, List.push_toArray, List.append_toArray, List.nil_append, List.cons_append]
  gi_wp2
  refine bodyPost_ret (results_none rfl _ _ _) rfl ?_
  exact ⟨⟨_, rfl⟩, .inl h0⟩
theorem smallM (Q : SmN) (M : List Tri) (tot : Int) (w0 : World) (h : SmM w0 Q M tot) : IterB Try.prog 17 #[.pointer (some ⟨Q.s, 0, none⟩)] smEnc (KeepB Q.all) M w0 := by
  obtain ⟨L, σ, h1, rfl⟩ := h
  exact small_any Q L tot σ w0 h1
end Go.Proofs.Ytnpiimaapholiaa
