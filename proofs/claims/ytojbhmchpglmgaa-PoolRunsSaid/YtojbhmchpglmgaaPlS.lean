/- The law PoolStops of layer 10 (pool), walked. -/
import Derived.Test.YtojbhmchpglmgaaPlF
import Derived.Test.YtojbhmchpglmgaaLiftS
namespace Go.Proofs.Ytojbhmchpglmgaa
set_option linter.unusedSimpArgs false
set_option linter.unusedVariables false
open Go.ChangeShapes Go.WideShapes Go.ChangeAt Go.RowKit Go.Shelf
open Ar (inR)
attribute [local go_sem] Oper.semAt_some
/-- the keys a, b, c .. -/
def kyA (i : Nat) : ByteArray := strOfNums [((97 + i : Nat) : Int)]
theorem kyA_inj {i j : Nat} (hi : i < 64) (hj : j < 64) (h : kyA i = kyA j) : i = j := by
  unfold kyA at h
  rw [str_inj (by intro z hz; simp at hz; omega) (by intro z hz; simp at hz; omega)] at h
  simp at h
  omega
theorem kyA_size (i : Nat) : (kyA i).size = 1 := by unfold kyA; rw [str_size]; rfl
theorem one_rd {w : World} {k : IntKind} {g : Nat} {z : Int} (h : w.cell? ⟨g, 0, none⟩ = some (.int k z)) (hz : (Lit.int k z).wf = true) : RdI w k (some ⟨g, 0, none⟩) 1 1 [z] :=
  ⟨rfl, Nat.le_refl _, by unfold maxLen; omega, fun _ => ⟨g, 0, rfl, lt_of_cell h, fun i hi => by have : i = 0 := by omega
                                                                                                  subst this; exact h⟩, fun x hx => by simp at hx; rw [hx]; exact hz⟩
/-- the first i places of m are those keys'. -/
def stA (m i : Nat) : KSt := ⟨(List.range' i (m - i)).reverse, fun j => if j < i then some (kyA j) else none⟩
theorem stA_new (m : Nat) : stA m 0 = kNew m := by
  unfold stA kNew
  congr 1
  rw [List.range_eq_range', Nat.sub_zero]
theorem stA_put {m i : Nat} (hi : i < m) (hm : m ≤ 64) : (stA m i).put m (kyA i) = (stA m (i + 1), some i) := by
  have h1 : posN m (stA m i).K (kyA i) = none := posN_no (fun j hj => by
    show (if j < i then some (kyA j) else none) ≠ _
    split
    · intro e; injection e with e; have := kyA_inj (by omega) (by omega) e; omega
    · simp)
  have h2 : (stA m i).fl = (List.range' (i + 1) (m - (i + 1))).reverse ++ [i] := by
    show (List.range' i (m - i)).reverse = _
    rw [show m - i = (m - (i + 1)) + 1 by omega, List.range'_succ, List.reverse_cons]
  unfold KSt.put
  rw [h1]
  simp only [kyA_size, h2, List.getLast?_append, List.getLast?_singleton, Option.some_or, List.dropLast_concat]
  rw [if_neg (by omega)]
  congr 2
  funext j
  show (if j = i then some (kyA i) else if j < i then some (kyA j) else none) = if j < i + 1 then some (kyA j) else none
  by_cases h : j = i
  · rw [if_pos h, if_pos (by omega), h]
  · rw [if_neg h]
    by_cases h' : j < i
    · rw [if_pos h', if_pos (by omega)]
    · rw [if_neg h', if_neg (by omega)]
/-- and their cells. -/
def cA (m i : Nat) (f : Nat → Cel) : List Cel := (List.range m).map fun j => if j < i then f j else (0, 0, 0, 0)
theorem cA_zero (m : Nat) (f : Nat → Cel) : cA m 0 f = List.replicate m (0, 0, 0, 0) := by
  unfold cA
  apply List.ext_getElem <;> simp
theorem cA_get {m i : Nat} (f : Nat → Cel) {j : Nat} (hj : j < m) : (cA m i f)[j]? = some (if j < i then f j else (0, 0, 0, 0)) := by
  unfold cA; rw [List.getElem?_map, List.getElem?_range hj]; rfl
theorem cA_set {m i : Nat} (f : Nat → Cel) : (cA m i f).set i (f i) = cA m (i + 1) f := by
  apply List.ext_getElem?
  intro j
  by_cases hj : j < m
  · by_cases hji : i = j
    · subst hji
      rw [List.getElem?_set_self (by unfold cA; simpa using hj), cA_get f hj, if_pos (by omega)]
    · rw [List.getElem?_set_ne hji, cA_get f hj, cA_get f hj]
      by_cases h : j < i
      · rw [if_pos h, if_pos (by omega)]
      · rw [if_neg h, if_neg (by omega)]
  · rw [List.getElem?_eq_none (by unfold cA; simpa using hj), List.getElem?_eq_none (by unfold cA; simpa using hj)]
theorem plL_A (m i : Nat) (f : Nat → Cel) : ∀ k, k ≤ m → plL (stA m i).K (cA m i f) k = (List.range (min k i)).map fun j => (kyA j, f j)
  | 0, _ => by simp [plL]
  | k + 1, hk => by
    by_cases h : k < i
    · rw [plL_yes (s := kyA k) (c := f k) (by show (if k < i then some (kyA k) else none) = _; rw [if_pos h]) (by rw [cA_get f (by omega), if_pos h]), plL_A m i f k (by omega), show min k i = k by omega, show min (k + 1) i = k + 1 by omega, List.range_succ, List.map_append]
      rfl
    · rw [plL_no (by show (if k < i then some (kyA k) else none) = _; rw [if_neg h]), plL_A m i f k (by omega), show min k i = i by omega, show min (k + 1) i = i by omega]
theorem plL_stA (m i : Nat) (f : Nat → Cel) (hi : i ≤ m) : plL (stA m i).K (cA m i f) m = (List.range i).map fun j => (kyA j, f j) := by
  rw [plL_A m i f m (Nat.le_refl _), show min m i = i by omega]
/-- what comes next of a list that is told by its places. -/
theorem next_map {β : Type} {i : Nat} {g : Nat → β} {pre : List β} {x : β} (h : pre ++ [x] <+: (List.range i).map g) : pre.length < i ∧ x = g pre.length := by
  have h1 := h.length_le
  simp at h1
  refine ⟨by omega, ?_⟩
  obtain ⟨t, ht⟩ := h
  have h2 : ((List.range i).map g)[pre.length]? = some x := by rw [← ht]; simp
  rw [List.getElem?_map, List.getElem?_range (by omega)] at h2
  exact (Option.some.inj h2).symm
theorem hold_cell {W : World} {b : Nat} {C : Array Value} (h : ∀ j, W.cell? ⟨b, j, none⟩ = C[j]?) (hb : b < W.heap.size) (o : Obj) : ∀ j, (W.alloc o).cell? ⟨b, j, none⟩ = C[j]? :=
  fun j => by rw [← h j]; exact (Fr.alloc (F := fun _ => False) (Fr.refl _ _) o).cell hb (fun h => h)
/-- the law's own boxes, and its pool. -/
structure SS (w wx : World) (b0 b1 b5 : Nat) (stop : Int) (Q : PlN) (σ : KSt) (C : List Cel) : Prop where
  at_ : PlAt wx Q σ C
  k0 : Blk wx b0 3 #[.int .i64 stop]
  k1 : Blk wx b1 4 #[.bool false]
  k5 : Blk wx b5 26 #[.pointer (some ⟨Q.p, 0, none⟩)]
  bl : Below w.heap.size w wx
theorem SS.keep {w X Y : World} {b0 b1 b5 : Nat} {stop : Int} {Q : PlN} {σ : KSt} {C : List Cel} (h : SS w X b0 b1 b5 stop Q σ C) (hb : Below X.heap.size X Y) : SS w Y b0 b1 b5 stop Q σ C :=
  ⟨h.at_.keep hb, h.k0.keep hb, h.k1.keep hb, h.k5.keep hb, below_in h.bl hb⟩
theorem SS.step {w X Y : World} {b0 b1 b5 : Nat} {stop : Int} {Q : PlN} {σ σ' : KSt} {C C' : List Cel} (h : SS w X b0 b1 b5 stop Q σ C) (hq : (∀ k, Q.all k → b1 < k ∧ k < b5) ∧ w.heap.size ≤ b0 ∧ b0 < b1) (h' : PlAt Y Q σ' C') (hf : Fr Q.F X Y) : SS w Y b0 b1 b5 stop Q σ' C' :=
  ⟨h', h.k0.fr hf (fun hF => by have := (hq.1 _ (Or.inl hF)).1; omega), h.k1.fr hf (fun hF => by have := (hq.1 _ (Or.inl hF)).1; omega), h.k5.fr hf (fun hF => by have := (hq.1 _ (Or.inl hF)).2; omega), h.bl.trans (hf.below h.bl.size (fun k hk => by have := (hq.1 _ (Or.inl hk)).1; omega))⟩
theorem SS.turn {w X Y : World} {b0 b1 b5 B : Nat} {stop : Int} {Q : PlN} {σ : KSt} {C : List Cel} (h : SS w X b0 b1 b5 stop Q σ C) (ht : Turn B X Y) (hB : w.heap.size ≤ B) : SS w Y b0 b1 b5 stop Q σ C :=
  ⟨KeepB.pl (KeepB.turn ht) h.at_, h.k0.turn ht, h.k1.turn ht, h.k5.turn ht, ht.below h.bl hB⟩
set_option maxRecDepth 100000 in
set_option maxHeartbeats 8000000 in
theorem stops_law (w : World) (n stop : Int) (hn : inR n) (hs : inR stop) :
    Calls Try.prog 6 #[.int .i64 n, .int .i64 stop] w fun e w' => e = .returned (.bool true) ∧ Below w.heap.size w w' := by
  refine callsM Try.func6 rfl ?_
  simp only [Try.ntmps6, List.size_toArray, List.length_cons, List.length_nil, Nat.reduceAdd, Nat.reduceSub, Array.replicate_succ, Array.replicate_zero, List.push_toArray, List.append_toArray, List.nil_append, List.cons_append]
  go_wp2_with (fail)
  obtain ⟨w1, hw1, k0, l1, s1⟩ := box_new w #[.int .i64 stop] 3
  obtain ⟨w2, hw2, k1, l2, s2⟩ := box_new w1 #[.bool false] 4
  rw [hw1, hw2]
  obtain ⟨b1, hb1⟩ : ∃ x, x = w.heap.size + 1 := ⟨_, rfl⟩
  obtain ⟨b0, hb0⟩ : ∃ x, x = w.heap.size := ⟨_, rfl⟩
  rw [s1, ← hb1] at k1
  rw [← hb0] at k0
  rw [← hb1, ← hb0]
  have HB := Lib.hid (And.intro hb0 hb1)
  refine (plfit_any w2).mono ?_
  rintro e w3 ⟨rfl, b3⟩
  have KK := Lib.hid (And.intro ((k0.keep l2).keep b3) (And.intro (k1.keep b3) (And.intro (below_in (below_in l1 l2) b3) (show b1 < w3.heap.size by have := b3.size; omega))))
  have r1 := KK.out.2.1.rd
  clear hw1 hw2 k0 k1 l1 l2 s1 s2 hb0 hb1 b3
  obtain ⟨m, hm, hm15⟩ : ∃ m : Nat, n % 16 = (m : Int) ∧ m < 16 := ⟨(n % 16).toNat, by omega, by omega⟩
  have tm : (m : Int) < 16 := by omega
  unfold inR at hn hs
  have eb : bits BinOp.and IntKind.i64 n 15 = (m : Int) := by rw [i64_mask4, hm]
  clear hm
  go_wp2_with (fail)
  refine (show Calls Try.prog 8 #[.int .i64 16, .agg #[.int .u64 9, .int .u64 7, .int .u64 0]] w3 _ from plnew_any 9 7 0 (by omega) (by omega) (by omega) 16 (by omega) (by omega) w3).mono ?_
  rintro e w4 ⟨Q, rfl, h4, hN, hnew, b4⟩
  obtain ⟨w5, hw5, k5, l5, s5⟩ := box_new w4 #[.pointer none] 26
  have k5' := k5.rd
  have k5w := k5.wr
  obtain ⟨w6, hw6⟩ : ∃ x, x = setObj w5 w4.heap.size (.cells #[.pointer (some ⟨Q.p, 0, none⟩)] 26 (0, 0)) := ⟨_, rfl⟩
  go_upto_region 5 with (fail)
  have es : w5.setCell ⟨w4.heap.size, 0, none⟩ (.pointer (some ⟨Q.p, 0, none⟩)) = w6 := by rw [setCell_obj k5, hw6]; rfl
  rw [es]
  have k6 : Blk w6 w4.heap.size 26 #[.pointer (some ⟨Q.p, 0, none⟩)] := by rw [hw6]; exact setObj_at (lt_of_block k5) _
  have b6 : Below w4.heap.size w4 w6 := by
    rw [hw6]; exact l5.trans ((Fr.setObj (F := fun k => k = w4.heap.size) (Fr.refl _ _) rfl _).below l5.size (fun k hk => by omega))
  obtain ⟨b5, hb5⟩ : ∃ x, x = w4.heap.size := ⟨_, rfl⟩
  have hlt4 := h4.lt
  have s6 : SS w w6 b0 b1 b5 stop Q (stA 16 0) (cA 16 0 fun j => ((j : Int), (j : Int), 0, 0)) := by
    rw [stA_new, cA_zero]
    exact ⟨h4.keep b6, (KK.out.1.keep b4).keep b6, (KK.out.2.1.keep b4).keep b6, by rw [hb5]; exact k6, below_in (below_in KK.out.2.2.1 b4) b6⟩
  have HQ := Lib.hid (show (∀ k, Q.all k → b1 < k ∧ k < b5) ∧ w.heap.size ≤ b0 ∧ b0 < b1 from ⟨fun k hk => by have := hlt4 k hk; have := hnew k hk; have := KK.out.2.2.2; omega, by have := HB.out; omega, by have := HB.out; omega⟩)
  have S6 := Lib.hid s6
  rw [← hb5]
  have HN := Lib.hid hN
  clear k5 k5' k5w hw5 l5 s5 hw6 es k6 b6 hlt4 s6 hb5 h4 hN hnew b4 KK r1
  go_wp2
  go_loopg [17] m (fun k si wr => ∃ i : Nat, si = .int .i64 (i : Int) ∧ i ≤ m ∧ Hid (k = m - i) ∧ Hid (SS w wr b0 b1 b5 stop Q (stA 16 i) (cA 16 i fun j => ((j : Int), (j : Int), 0, 0))))
  case atStart => exact ⟨0, rfl, by omega, Lib.hid rfl, S6⟩
  case round =>
    obtain ⟨i, rfl, hi, HK, RI⟩ := hrel
    by_cases him : i < m
    · have t1 : (i : Int) < (m : Int) := by omega
      have t2 : (i : Int) < 16 := by omega
      have k5 := RI.out.k5.rd
      have e1 : IntKind.i64.wrap (97 + (i : Int)) = 97 + (i : Int) := by rw [IntKind.wrap_i64]; omega
      have e2 : IntKind.u8.wrap (97 + (i : Int)) = 97 + (i : Int) := by rw [IntKind.wrap_u8]; omega
      have hcv : ∀ (wx : World) (g : Nat), wx.cell? ⟨g, 0, none⟩ = some (.int .u8 (97 + (i : Int))) → (convert 56 9 (.slice (some ⟨g, 0, none⟩) 1 1)).run Try.prog wx = .ok (.string (kyA i)) wx :=
        fun wx g h => by
          have := conv_str (P := Try.prog) (dst := 9) Try.underlying56 Try.underlying5 Try.underlying9 (one_rd h (u8_wf (by omega)))
          rw [this]; unfold kyA; rw [Int.natCast_add]; rfl
      have CN := Lib.hid (fun wx (hx : SS w wx b0 b1 b5 stop Q (stA 16 i) (cA 16 i fun j => ((j : Int), (j : Int), 0, 0))) => show Calls Try.prog 11 #[.int .i64 (i : Int), .int .i64 0] wx (fun e w' => e = .returned (celV ((i : Int), (i : Int), 0, 0)) ∧ SS w w' b0 b1 b5 stop Q (stA 16 i) (cA 16 i fun j => ((j : Int), (j : Int), 0, 0)) ∧ Below wx.heap.size wx w') from
        (new_any (i : Int) 0 wx).mono (fun e w' hh => ⟨hh.1, hx.keep hh.2, hh.2⟩))
      have CP := Lib.hid (fun wx (hx : SS w wx b0 b1 b5 stop Q (stA 16 i) (cA 16 i fun j => ((j : Int), (j : Int), 0, 0))) => show Calls Try.prog 10 #[.pointer (some ⟨Q.p, 0, none⟩), .string (kyA i), celV ((i : Int), (i : Int), 0, 0)] wx (fun e w' => e = .returned (.pointer (some ⟨Q.cb, i * 4, none⟩)) ∧ SS w w' b0 b1 b5 stop Q (stA 16 (i + 1)) (cA 16 (i + 1) fun j => ((j : Int), (j : Int), 0, 0)) ∧ Fr Q.F wx w') from by
        have := plput_any (kyA i) (by rw [kyA_size]; unfold maxLen; omega) ((i : Int), (i : Int), 0, 0) wx hx.at_
        rw [HN.out, stA_put (by omega) (by omega)] at this
        refine this.mono (fun e w' hh => ⟨hh.1, ?_, hh.2.2⟩)
        have h2 := hx.step HQ.out hh.2.1 hh.2.2
        rw [show plSet (cA 16 i fun j => ((j : Int), (j : Int), 0, 0)) ((i : Int), (i : Int), 0, 0) (some i) = _ from cA_set (m := 16) (i := i) fun j => ((j : Int), (j : Int), 0, 0)] at h2
        exact h2)
      go_upto_region 8 with (fail)
      have SD := Lib.hid (show SS w wr.drew b0 b1 b5 stop Q (stA 16 i) (cA 16 i fun j => ((j : Int), (j : Int), 0, 0)) from RI.out.keep (below_draws (Below.refl _ _) 1))
      have k5 : ∀ j, wr.drew.cell? ⟨b5, j, none⟩ = (#[.pointer (some ⟨Q.p, 0, none⟩)] : Array Value)[j]? := k5
      have SE := Lib.hid (show SS w (wr.alloc (.cells #[.int .u8 (97 + (i : Int))] 5)).drew b0 b1 b5 stop Q (stA 16 i) (cA 16 i fun j => ((j : Int), (j : Int), 0, 0)) from SD.out.keep ((Below.refl _ _).alloc (Nat.le_refl _) (.cells #[.int .u8 (97 + (i : Int))] 5)))
      have G1 := Lib.hid ((show Blk (wr.alloc (.cells #[.int .u8 (97 + (i : Int))] 5)).drew wr.heap.size 5 #[.int .u8 (97 + (i : Int))] from heap_alloc_new wr _))
      refine wp_region_held_drew (S := fun w' => ∀ j, w'.cell? ⟨b5, j, none⟩ = (#[.pointer (some ⟨Q.p, 0, none⟩)] : Array Value)[j]?) (by kernel_rfl) k5 (fun hHeld => ?_)
      refine wpAnyH_take (i := 0) (oi := ?_) (v := ?_) ?_ ?_ ?_ ?_ ?_ ?_ ?_ ?_
      rotate_left 2
      · simp only [List.getElem?_toArray, List.getElem?_cons_succ, List.getElem?_cons_zero]; rfl
      · kernel_rfl
      · kernel_rfl
      · kernel_rfl
      · exact fun _ _ _ h => h
      · refine Or.inl ⟨by rfl, ?_⟩
        intro w' hSw
        (try dsimp only at hSw)
        go_simp
        all_goals (with_reducible rfl)
      · assumption
      try simp only [Act.put, List.setIfInBounds_toArray, List.set_cons_zero, List.set_cons_succ]
      refine wpAnyH_take (i := 1) (oi := ?_) (v := ?_) ?_ ?_ ?_ ?_ ?_ ?_ ?_ ?_
      rotate_left 2
      · simp only [List.getElem?_toArray, List.getElem?_cons_succ, List.getElem?_cons_zero]; rfl
      · kernel_rfl
      · kernel_rfl
      · kernel_rfl
      · exact fun _ _ _ h => h
      · refine Or.inl ⟨by rfl, ?_⟩
        intro w' hSw
        (try dsimp only at hSw)
        go_simp
        all_goals (with_reducible rfl)
      · assumption
      try simp only [Act.put, List.setIfInBounds_toArray, List.set_cons_zero, List.set_cons_succ]
      refine wpAnyH_take (i := 2) (oi := ?_) (v := ?_) ?_ ?_ ?_ ?_ ?_ ?_ ?_ ?_
      rotate_left 2
      · simp only [List.getElem?_toArray, List.getElem?_cons_succ, List.getElem?_cons_zero]; rfl
      · kernel_rfl
      · kernel_rfl
      · kernel_rfl
      · exact fun _ _ _ h => h
      · refine Or.inl ⟨by rfl, ?_⟩
        intro w' hSw
        (try dsimp only at hSw)
        go_simp
        all_goals (with_reducible rfl)
      · assumption
      try simp only [Act.put, List.setIfInBounds_toArray, List.set_cons_zero, List.set_cons_succ]
      refine wpAnyH_take (i := 3) (oi := ?_) (v := ?_) ?_ ?_ ?_ ?_ ?_ ?_ ?_ ?_
      rotate_left 2
      · simp only [List.getElem?_toArray, List.getElem?_cons_succ, List.getElem?_cons_zero]; rfl
      · kernel_rfl
      · kernel_rfl
      · kernel_rfl
      · exact fun _ _ _ h => h
      · refine Or.inl ⟨by rfl, ?_⟩
        intro w' hSw
        (try dsimp only at hSw)
        go_simp
        all_goals (with_reducible rfl)
      · assumption
      try simp only [Act.put, List.setIfInBounds_toArray, List.set_cons_zero, List.set_cons_succ]
      refine wpAnyH_take (i := 6) (oi := ?_) (v := ?_) ?_ ?_ ?_ ?_ ?_ ?_ ?_ ?_
      rotate_left 2
      · simp only [List.getElem?_toArray, List.getElem?_cons_succ, List.getElem?_cons_zero]; rfl
      · kernel_rfl
      · kernel_rfl
      · kernel_rfl
      · exact fun _ _ _ h => h
      · refine Or.inl ⟨by rfl, ?_⟩
        intro w' hSw
        (try dsimp only at hSw)
        go_simp
        all_goals (with_reducible rfl)
      · assumption
      try simp only [Act.put, List.setIfInBounds_toArray, List.set_cons_zero, List.set_cons_succ]
      refine wpAnyH_ready (rs := [4, 7]) (by kernel_rfl) (by simp) ?_
      refine AllReadyH.cons (o := ?_) ?_ ?_ ?_
      rotate_left 1
      · simp only [List.getElem?_toArray, List.getElem?_cons_succ, List.getElem?_cons_zero]; rfl
      · skip
        intro K hK
        go_simp
        skip
        refine hK.out _ _ SE.out.k5.rd (fun hHeld => ?_)
        clear hK K
        try simp only [Act.put, List.setIfInBounds_toArray, List.set_cons_zero, List.set_cons_succ]
        refine wpAnyH_strong (S' := fun w' => (∀ j, w'.cell? ⟨b5, j, none⟩ = (#[.pointer (some ⟨Q.p, 0, none⟩)] : Array Value)[j]?) ∧ w'.cell? ⟨wr.heap.size, 0, none⟩ = some (.int .u8 (97 + (i : Int)))) (fun _ h => h.1) _ _ _ _ ?_
        have hHeld2 := And.intro hHeld (show (wr.alloc (.cells #[.int .u8 (97 + (i : Int))] 5)).drew.cell? ⟨wr.heap.size, 0, none⟩ = some (.int .u8 (97 + (i : Int))) from G1.out.rd 0)
        clear hHeld
        refine wpAnyH_take (i := 5) (oi := ?_) (v := ?_) ?_ ?_ ?_ ?_ ?_ ?_ ?_ ?_
        rotate_left 2
        · simp only [List.getElem?_toArray, List.getElem?_cons_succ, List.getElem?_cons_zero]; rfl
        · kernel_rfl
        · kernel_rfl
        · kernel_rfl
        · exact fun _ _ _ h => h
        · refine Or.inl ⟨by rfl, ?_⟩
          intro w' hSw
          (try dsimp only at hSw)
          go_simp
          all_goals (with_reducible rfl)
        · assumption
        try simp only [Act.put, List.setIfInBounds_toArray, List.set_cons_zero, List.set_cons_succ]
        refine wpAnyH_ready (rs := [7]) (by kernel_rfl) (by simp) ?_
        refine AllReadyH.cons (o := ?_) ?_ ?_ ?_
        rotate_left 1
        · simp only [List.getElem?_toArray, List.getElem?_cons_succ, List.getElem?_cons_zero]; rfl
        rotate_left 1
        · exact AllReadyH.nil
        intro K hK
        go_simp
        ((with_reducible refine (CN.out _ SE.out).mono ?_); rintro e wa ⟨rfl, sa, ba⟩; have S1 := Lib.hid (And.intro sa (G1.out.keep ba)); clear sa ba)
        refine hK.out _ _ (And.intro S1.out.1.k5.rd (S1.out.2.rd 0)) (fun hHeld => ?_)
        clear hK K
        try simp only [Act.put, List.setIfInBounds_toArray, List.set_cons_zero, List.set_cons_succ]
        refine wpAnyH_ready (rs := [8]) (by kernel_rfl) (by simp) ?_
        refine AllReadyH.cons (o := ?_) ?_ ?_ ?_
        rotate_left 1
        · simp only [List.getElem?_toArray, List.getElem?_cons_succ, List.getElem?_cons_zero]; rfl
        rotate_left 1
        · exact AllReadyH.nil
        intro K hK
        go_simp
        ((with_reducible refine (CP.out _ S1.out.1).mono ?_); rintro e wb ⟨rfl, sb, fb⟩; have S2 := Lib.hid (And.intro sb (S1.out.2.fr fb (fun hF => by have := (HQ.out.1 _ (Or.inl hF)).2; have := lt_of_block RI.out.k5; omega))); clear sb fb)
        refine hK.out _ _ (And.intro S2.out.1.k5.rd (S2.out.2.rd 0)) (fun hHeld => ?_)
        clear hK K
        try simp only [Act.put, List.setIfInBounds_toArray, List.set_cons_zero, List.set_cons_succ]
        refine wpAnyH_take (i := 9) (oi := ?_) (v := ?_) ?_ ?_ ?_ ?_ ?_ ?_ ?_ ?_
        rotate_left 2
        · simp only [List.getElem?_toArray, List.getElem?_cons_succ, List.getElem?_cons_zero]; rfl
        · kernel_rfl
        · kernel_rfl
        · kernel_rfl
        · exact fun _ _ _ h => h
        · refine Or.inl ⟨by rfl, ?_⟩
          intro w' hSw
          (try dsimp only at hSw)
          go_simp
          all_goals (with_reducible rfl)
        · assumption
        try simp only [Act.put, List.setIfInBounds_toArray, List.set_cons_zero, List.set_cons_succ]
        refine wpAnyH_done (by kernel_rfl) ?_ _
        clear hHeld hHeld2 k5 CN CP hcv
        go_wp2
        go_roundg (m - (i + 1))
        case measure => have := HK.out; omega
        case rel => exact ⟨i + 1, by go_num, by omega, Lib.hid rfl, Lib.hid S2.out.1⟩
      · skip
        refine AllReadyH.cons (o := ?_) ?_ ?_ ?_
        rotate_left 1
        · simp only [List.getElem?_toArray, List.getElem?_cons_succ, List.getElem?_cons_zero]; rfl
        rotate_left 1
        · exact AllReadyH.nil
        intro K hK
        go_simp
        ((with_reducible refine (CN.out _ SD.out).mono ?_); rintro e wa ⟨rfl, sa, ba⟩; have S1 := Lib.hid sa; clear sa ba)
        refine hK.out _ _ S1.out.k5.rd (fun hHeld => ?_)
        clear hK K
        try simp only [Act.put, List.setIfInBounds_toArray, List.set_cons_zero, List.set_cons_succ]
        have SF := Lib.hid (show SS w (wa.alloc (.cells #[.int .u8 (97 + (i : Int))] 5)) b0 b1 b5 stop Q (stA 16 i) (cA 16 i fun j => ((j : Int), (j : Int), 0, 0)) from S1.out.keep ((Below.refl _ _).alloc (Nat.le_refl _) (.cells #[.int .u8 (97 + (i : Int))] 5)))
        have G2 := Lib.hid ((show Blk (wa.alloc (.cells #[.int .u8 (97 + (i : Int))] 5)) wa.heap.size 5 #[.int .u8 (97 + (i : Int))] from heap_alloc_new wa _))
        refine wpAnyH_ready (rs := [4]) (by kernel_rfl) (by simp) ?_
        refine AllReadyH.cons (o := ?_) ?_ ?_ ?_
        rotate_left 1
        · simp only [List.getElem?_toArray, List.getElem?_cons_succ, List.getElem?_cons_zero]; rfl
        rotate_left 1
        · exact AllReadyH.nil
        intro K hK
        go_simp
        skip
        refine hK.out _ _ SF.out.k5.rd (fun hHeld => ?_)
        clear hK K
        try simp only [Act.put, List.setIfInBounds_toArray, List.set_cons_zero, List.set_cons_succ]
        refine wpAnyH_strong (S' := fun w' => (∀ j, w'.cell? ⟨b5, j, none⟩ = (#[.pointer (some ⟨Q.p, 0, none⟩)] : Array Value)[j]?) ∧ w'.cell? ⟨wa.heap.size, 0, none⟩ = some (.int .u8 (97 + (i : Int)))) (fun _ h => h.1) _ _ _ _ ?_
        have hHeld2 := And.intro hHeld (show (wa.alloc (.cells #[.int .u8 (97 + (i : Int))] 5)).cell? ⟨wa.heap.size, 0, none⟩ = some (.int .u8 (97 + (i : Int))) from G2.out.rd 0)
        clear hHeld
        refine wpAnyH_take (i := 5) (oi := ?_) (v := ?_) ?_ ?_ ?_ ?_ ?_ ?_ ?_ ?_
        rotate_left 2
        · simp only [List.getElem?_toArray, List.getElem?_cons_succ, List.getElem?_cons_zero]; rfl
        · kernel_rfl
        · kernel_rfl
        · kernel_rfl
        · exact fun _ _ _ h => h
        · refine Or.inl ⟨by rfl, ?_⟩
          intro w' hSw
          (try dsimp only at hSw)
          go_simp
          all_goals (with_reducible rfl)
        · assumption
        try simp only [Act.put, List.setIfInBounds_toArray, List.set_cons_zero, List.set_cons_succ]
        refine wpAnyH_ready (rs := [8]) (by kernel_rfl) (by simp) ?_
        refine AllReadyH.cons (o := ?_) ?_ ?_ ?_
        rotate_left 1
        · simp only [List.getElem?_toArray, List.getElem?_cons_succ, List.getElem?_cons_zero]; rfl
        rotate_left 1
        · exact AllReadyH.nil
        intro K hK
        go_simp
        ((with_reducible refine (CP.out _ SF.out).mono ?_); rintro e wb ⟨rfl, sb, fb⟩; have S2 := Lib.hid (And.intro sb (G2.out.fr fb (fun hF => by have := (HQ.out.1 _ (Or.inl hF)).2; have := lt_of_block S1.out.k5; omega))); clear sb fb)
        refine hK.out _ _ (And.intro S2.out.1.k5.rd (S2.out.2.rd 0)) (fun hHeld => ?_)
        clear hK K
        try simp only [Act.put, List.setIfInBounds_toArray, List.set_cons_zero, List.set_cons_succ]
        refine wpAnyH_take (i := 9) (oi := ?_) (v := ?_) ?_ ?_ ?_ ?_ ?_ ?_ ?_ ?_
        rotate_left 2
        · simp only [List.getElem?_toArray, List.getElem?_cons_succ, List.getElem?_cons_zero]; rfl
        · kernel_rfl
        · kernel_rfl
        · kernel_rfl
        · exact fun _ _ _ h => h
        · refine Or.inl ⟨by rfl, ?_⟩
          intro w' hSw
          (try dsimp only at hSw)
          go_simp
          all_goals (with_reducible rfl)
        · assumption
        try simp only [Act.put, List.setIfInBounds_toArray, List.set_cons_zero, List.set_cons_succ]
        refine wpAnyH_done (by kernel_rfl) ?_ _
        clear hHeld hHeld2 k5 CN CP hcv
        go_wp2
        go_roundg (m - (i + 1))
        case measure => have := HK.out; omega
        case rel => exact ⟨i + 1, by go_num, by omega, Lib.hid rfl, Lib.hid S2.out.1⟩
    · have hie : i = m := by omega
      subst hie
      go_upto_region 11 with (fail)
      obtain ⟨w7, hw7, k7, l7, s7⟩ := box_new wr #[.int .i64 0] 3
      have k7r := k7.rd
      have k7w := k7.wr
      go_upto_region 12 with (fail)
      have es : w7.setCell ⟨wr.heap.size, 0, none⟩ (.int .i64 0) = setObj w7 wr.heap.size (.cells #[.int .i64 0] 3 (0, 0)) := by rw [setCell_obj k7]; rfl
      rw [es]
      have k8 : Blk (setObj w7 wr.heap.size (.cells #[.int .i64 0] 3 (0, 0))) wr.heap.size 3 #[.int .i64 0] := setObj_at (lt_of_block k7) _
      have s8 := RI.out.keep (l7.trans ((Fr.setObj (F := fun k => k = wr.heap.size) (Fr.refl _ w7) rfl (.cells #[.int .i64 0] 3 (0, 0))).below l7.size (fun k hk => by omega)))
      obtain ⟨b7, hb7⟩ : ∃ x, x = wr.heap.size := ⟨_, rfl⟩
      have HB7 := Lib.hid (show b5 < b7 from by have := lt_of_block RI.out.k5; omega)
      rw [← hb7] at k8 s8 ⊢
      generalize (setObj w7 b7 (.cells #[.int .i64 0] 3 (0, 0))) = w8 at k8 s8 ⊢
      have S8 := Lib.hid s8
      have K8 := Lib.hid k8
      have k5 := s8.k5.rd
      clear k7 k8 s8 es l7 s7 hw7 k7r k7w hb7
      go_wp2
      have a8 : PlAt w8 Q (stA 16 i) (cA 16 i fun j => ((j : Int), (j : Int), 0, 0)) := S8.out.at_
      have hit := plall_any Q (stA 16 i) (cA 16 i fun j => ((j : Int), (j : Int), 0, 0)) w8 a8
      rw [HN.out, plL_stA 16 i _ (by omega)] at hit
      refine (wpIn_wide (n := 0)).1 (rf_law (gf := 16) (fb := #[.pointer (some ⟨Q.p, 0, none⟩)]) rfl (enters_of Try.func16 (by kernel_rfl) rfl) hit (Below.refl _ _) (fun _ => rfl) KeepB.trans (fun _ _ h => KeepB.turn h)
        (fun pre W' => SS w W' b0 b1 b5 stop Q (stA 16 i) (cA 16 i fun j => ((j : Int), (j : Int), 0, 0)) ∧ Blk W' b7 3 #[.int .i64 (pre.length : Int)] ∧ w8.heap.size ≤ W'.heap.size)
        (fun c pre W' => c = .exit 2 ∧ SS w W' b0 b1 b5 stop Q (stA 16 i) (cA 16 i fun j => ((j : Int), (j : Int), 0, 0)) ∧ Blk W' b7 3 #[.int .i64 stop])
        ?hI ?hIx ?h0 ?round ?done ?stop)
      case hI => exact fun s X Y hs hT => ⟨hs.1.turn hT S8.out.bl.size, hs.2.1.turn hT, Nat.le_trans hs.2.2 hT.size⟩
      case hIx =>
        rintro c s X Y ⟨rfl, h1, h2⟩ hT
        exact ⟨rfl, h1.turn hT S8.out.bl.size, h2.turn hT⟩
      case h0 => exact ⟨S8.out, K8.out, Nat.le_refl _⟩
      case round =>
        rintro l pre ⟨s, c⟩ X K hl hpx ⟨hS, h7, hsz⟩ hK
        obtain ⟨hj, hx⟩ := next_map hpx
        obtain ⟨j, hjd⟩ : ∃ j, j = pre.length := ⟨_, rfl⟩
        rw [← hjd] at hj hx h7
        obtain ⟨rfl, rfl⟩ := Prod.mk.inj hx
        obtain ⟨x1, x2, e1, kr, kw, e2, bl2, kc2⟩ := cbox X ((j : Int), (j : Int), 0, 0)
        have HW := Lib.hid (And.intro e2 (And.intro bl2 kc2))
        have HS := Lib.hid (And.intro (hS.keep bl2) (And.intro (h7.keep bl2) (show w8.heap.size ≤ x2.heap.size by have := bl2.size; omega)))
        have HK2 := Lib.hid hK
        have HJ := Lib.hid (And.intro hjd hj)
        have HL := Lib.hid hl
        clear e2 bl2 kc2 hS h7 hsz hK hjd hx hpx hl hit a8 k5
        gi_wp2
        rw [HW.out.1]
        refine HK2.out _ _ (keepsFrom_below HW.out.2.1) (KeepB.below HW.out.2.1) ?_
        clear kr kw e1
        intro W2 hT
        have T2 := Lib.hid (And.intro (HS.out.1.turn hT S8.out.bl.size) (And.intro (HS.out.2.1.turn hT) (And.intro (HW.out.2.2.turn hT) (show w8.heap.size ≤ W2.heap.size by have := hT.size; have := HS.out.2.2; omega))))
        clear hT HK2
        have z0 := T2.out.1.k0.rd
        have z7 := T2.out.2.1.rd
        by_cases hst : (j : Int) = stop
        · have t3 : ((j : Int) == stop) = true := by simpa using hst
          have HST := Lib.hid hst
          gi_wp2
          exact ⟨KeepsFrom.refl _ _, rfl, T2.out.1, by rw [← HST.out]; exact T2.out.2.1⟩
        · have t3 : ((j : Int) == stop) = false := by simpa using hst
          have e1 : IntKind.i64.wrap (97 + (j : Int)) = 97 + (j : Int) := by rw [IntKind.wrap_i64]; have := HJ.out.2; omega
          have e2 : IntKind.u8.wrap (97 + (j : Int)) = 97 + (j : Int) := by rw [IntKind.wrap_u8]; have := HJ.out.2; omega
          have hcv : ∀ (wx : World) (g : Nat), wx.cell? ⟨g, 0, none⟩ = some (.int .u8 (97 + (j : Int))) → (convert 56 9 (.slice (some ⟨g, 0, none⟩) 1 1)).run Try.prog wx = .ok (.string (kyA j)) wx :=
            fun wx g h => by
              have := conv_str (P := Try.prog) (dst := 9) Try.underlying56 Try.underlying5 Try.underlying9 (one_rd h (u8_wf (by have := HJ.out.2; omega)))
              rw [this]; unfold kyA; rw [Int.natCast_add]; rfl
          have SB := Lib.hid (fun (wx : World) (hb : Below W2.heap.size W2 wx) => show (∀ x, wx.cell? ⟨b5, x, none⟩ = (#[.pointer (some ⟨Q.p, 0, none⟩)] : Array Value)[x]?) ∧ (∀ x, wx.cell? ⟨b7, x, none⟩ = (#[.int .i64 (j : Int)] : Array Value)[x]?) ∧ wx.cell? ⟨X.heap.size, 1, none⟩ = some (.int .i64 (j : Int)) ∧ wx.cell? ⟨Q.cb, j * 4 + 1, none⟩ = some (.int .i64 (j : Int)) from
            ⟨(T2.out.1.k5.keep hb).rd, (T2.out.2.1.keep hb).rd, (T2.out.2.2.1.keep hb).rd 1, ((T2.out.1.keep hb).at_.cell (i := j) (c := ((j : Int), (j : Int), 0, 0)) (by rw [cA_get _ (by have := HJ.out.2; omega), if_pos HJ.out.2])).2.1⟩)
          have D2 := Lib.hid (show Below W2.heap.size W2 W2.drew from below_draws (Below.refl _ _) 1)
          have D3 := Lib.hid (show Below W2.heap.size W2 (W2.alloc (.cells #[.int .u8 (97 + (j : Int))] 5)).drew from below_draws ((Below.refl _ _).alloc (Nat.le_refl _) _) 1)
          have G3 := Lib.hid ((show Blk (W2.alloc (.cells #[.int .u8 (97 + (j : Int))] 5)).drew W2.heap.size 5 #[.int .u8 (97 + (j : Int))] from heap_alloc_new W2 _))
          have CF := Lib.hid (fun (wx : World) (hb : Below W2.heap.size W2 wx) => show Calls Try.prog 13 #[.pointer (some ⟨Q.p, 0, none⟩), .string (kyA j)] wx (fun e w' => e = .returned (.pointer (some ⟨Q.cb, j * 4, none⟩)) ∧ Below wx.heap.size wx w') from by
            have := plfind_any (kyA j) (by rw [kyA_size]; unfold maxLen; omega) wx (T2.out.1.at_.keep hb)
            rw [HN.out, posN_at (i := j) (by have := HJ.out.2; omega) (by show (if j < i then some (kyA j) else none) = _; rw [if_pos HJ.out.2]) (fun a b s ha hb => by
              unfold stA at ha hb
              simp only at ha hb
              split at ha
              · split at hb
                · injection ha with ha; injection hb with hb
                  exact kyA_inj (by omega) (by omega) (ha.trans hb.symm)
                · cases hb
              · cases ha)] at this
            exact this)
          gi_wp2
          refine round_region_held (S := fun wx => (∀ x, wx.cell? ⟨b5, x, none⟩ = (#[.pointer (some ⟨Q.p, 0, none⟩)] : Array Value)[x]?) ∧ (∀ x, wx.cell? ⟨b7, x, none⟩ = (#[.int .i64 (j : Int)] : Array Value)[x]?) ∧ wx.cell? ⟨X.heap.size, 1, none⟩ = some (.int .i64 (j : Int)) ∧ wx.cell? ⟨Q.cb, j * 4 + 1, none⟩ = some (.int .i64 (j : Int))) (by kernel_rfl) (by kernel_rfl) (by rintro ⟨_, _, h⟩; exact h) (SB.out _ D2.out) (fun hHeld => ?_)
          refine wpAnyH_take (i := 0) (oi := ?_) (v := ?_) ?_ ?_ ?_ ?_ ?_ ?_ ?_ ?_
          rotate_left 2
          · simp only [List.getElem?_toArray, List.getElem?_cons_succ, List.getElem?_cons_zero]; rfl
          · kernel_rfl
          · kernel_rfl
          · kernel_rfl
          · exact fun _ _ _ h => h
          · refine Or.inl ⟨by rfl, ?_⟩
            intro w' hSw
            (try dsimp only at hSw)
            go_simp
            all_goals (with_reducible rfl)
          · assumption
          try simp only [Act.put, List.setIfInBounds_toArray, List.set_cons_zero, List.set_cons_succ]
          refine wpAnyH_take (i := 1) (oi := ?_) (v := ?_) ?_ ?_ ?_ ?_ ?_ ?_ ?_ ?_
          rotate_left 2
          · simp only [List.getElem?_toArray, List.getElem?_cons_succ, List.getElem?_cons_zero]; rfl
          · kernel_rfl
          · kernel_rfl
          · kernel_rfl
          · exact fun _ _ _ h => h
          · refine Or.inl ⟨by rfl, ?_⟩
            intro w' hSw
            (try dsimp only at hSw)
            go_simp
            all_goals (with_reducible rfl)
          · assumption
          try simp only [Act.put, List.setIfInBounds_toArray, List.set_cons_zero, List.set_cons_succ]
          refine wpAnyH_take (i := 2) (oi := ?_) (v := ?_) ?_ ?_ ?_ ?_ ?_ ?_ ?_ ?_
          rotate_left 2
          · simp only [List.getElem?_toArray, List.getElem?_cons_succ, List.getElem?_cons_zero]; rfl
          · kernel_rfl
          · kernel_rfl
          · kernel_rfl
          · exact fun _ _ _ h => h
          · refine Or.inl ⟨by rfl, ?_⟩
            intro w' hSw
            (try dsimp only at hSw)
            go_simp
            all_goals (with_reducible rfl)
          · assumption
          try simp only [Act.put, List.setIfInBounds_toArray, List.set_cons_zero, List.set_cons_succ]
          refine wpAnyH_take (i := 3) (oi := ?_) (v := ?_) ?_ ?_ ?_ ?_ ?_ ?_ ?_ ?_
          rotate_left 2
          · simp only [List.getElem?_toArray, List.getElem?_cons_succ, List.getElem?_cons_zero]; rfl
          · kernel_rfl
          · kernel_rfl
          · kernel_rfl
          · exact fun _ _ _ h => h
          · refine Or.inl ⟨by rfl, ?_⟩
            intro w' hSw
            (try dsimp only at hSw)
            go_simp
            all_goals (with_reducible rfl)
          · assumption
          try simp only [Act.put, List.setIfInBounds_toArray, List.set_cons_zero, List.set_cons_succ]
          refine wpAnyH_ready (rs := [4]) (by kernel_rfl) (by simp) ?_
          refine AllReadyH.cons (o := ?_) ?_ ?_ ?_
          rotate_left 1
          · simp only [List.getElem?_toArray, List.getElem?_cons_succ, List.getElem?_cons_zero]; rfl
          rotate_left 1
          · exact AllReadyH.nil
          intro K hK
          go_simp
          skip
          refine hK.out _ _ (SB.out _ D3.out) (fun hHeld => ?_)
          clear hK K
          try simp only [Act.put, List.setIfInBounds_toArray, List.set_cons_zero, List.set_cons_succ]
          refine wpAnyH_strong (S' := fun wx => ((∀ x, wx.cell? ⟨b5, x, none⟩ = (#[.pointer (some ⟨Q.p, 0, none⟩)] : Array Value)[x]?) ∧ (∀ x, wx.cell? ⟨b7, x, none⟩ = (#[.int .i64 (j : Int)] : Array Value)[x]?) ∧ wx.cell? ⟨X.heap.size, 1, none⟩ = some (.int .i64 (j : Int)) ∧ wx.cell? ⟨Q.cb, j * 4 + 1, none⟩ = some (.int .i64 (j : Int))) ∧ wx.cell? ⟨W2.heap.size, 0, none⟩ = some (.int .u8 (97 + (j : Int)))) (fun _ h => h.1) _ _ _ _ ?_
          have hHeld2 := And.intro hHeld (show (W2.alloc (.cells #[.int .u8 (97 + (j : Int))] 5)).drew.cell? ⟨W2.heap.size, 0, none⟩ = some (.int .u8 (97 + (j : Int))) from G3.out.rd 0)
          clear hHeld
          refine wpAnyH_take (i := 5) (oi := ?_) (v := ?_) ?_ ?_ ?_ ?_ ?_ ?_ ?_ ?_
          rotate_left 2
          · simp only [List.getElem?_toArray, List.getElem?_cons_succ, List.getElem?_cons_zero]; rfl
          · kernel_rfl
          · kernel_rfl
          · kernel_rfl
          · exact fun _ _ _ h => h
          · refine Or.inl ⟨by rfl, ?_⟩
            intro w' hSw
            (try dsimp only at hSw)
            go_simp
            all_goals (with_reducible rfl)
          · assumption
          try simp only [Act.put, List.setIfInBounds_toArray, List.set_cons_zero, List.set_cons_succ]
          refine wpAnyH_take (i := 6) (oi := ?_) (v := ?_) ?_ ?_ ?_ ?_ ?_ ?_ ?_ ?_
          rotate_left 2
          · simp only [List.getElem?_toArray, List.getElem?_cons_succ, List.getElem?_cons_zero]; rfl
          · kernel_rfl
          · kernel_rfl
          · kernel_rfl
          · exact fun _ _ _ h => h
          · refine Or.inl ⟨by rfl, ?_⟩
            intro w' hSw
            (try dsimp only at hSw)
            go_simp
            all_goals (with_reducible rfl)
          · assumption
          try simp only [Act.put, List.setIfInBounds_toArray, List.set_cons_zero, List.set_cons_succ]
          refine wpAnyH_take (i := 7) (oi := ?_) (v := ?_) ?_ ?_ ?_ ?_ ?_ ?_ ?_ ?_
          rotate_left 2
          · simp only [List.getElem?_toArray, List.getElem?_cons_succ, List.getElem?_cons_zero]; rfl
          · kernel_rfl
          · kernel_rfl
          · kernel_rfl
          · exact fun _ _ _ h => h
          · refine Or.inl ⟨by rfl, ?_⟩
            intro w' hSw
            (try dsimp only at hSw)
            go_simp
            all_goals (with_reducible rfl)
          · assumption
          try simp only [Act.put, List.setIfInBounds_toArray, List.set_cons_zero, List.set_cons_succ]
          refine wpAnyH_take (i := 8) (oi := ?_) (v := ?_) ?_ ?_ ?_ ?_ ?_ ?_ ?_ ?_
          rotate_left 2
          · simp only [List.getElem?_toArray, List.getElem?_cons_succ, List.getElem?_cons_zero]; rfl
          · kernel_rfl
          · kernel_rfl
          · kernel_rfl
          · exact fun _ _ _ h => h
          · refine Or.inl ⟨by rfl, ?_⟩
            intro w' hSw
            (try dsimp only at hSw)
            go_simp
            all_goals (with_reducible rfl)
          · assumption
          try simp only [Act.put, List.setIfInBounds_toArray, List.set_cons_zero, List.set_cons_succ]
          refine wpAnyH_take (i := 9) (oi := ?_) (v := ?_) ?_ ?_ ?_ ?_ ?_ ?_ ?_ ?_
          rotate_left 2
          · simp only [List.getElem?_toArray, List.getElem?_cons_succ, List.getElem?_cons_zero]; rfl
          · kernel_rfl
          · kernel_rfl
          · kernel_rfl
          · exact fun _ _ _ h => h
          · refine Or.inl ⟨by rfl, ?_⟩
            intro w' hSw
            (try dsimp only at hSw)
            go_simp
            all_goals (with_reducible rfl)
          · assumption
          try simp only [Act.put, List.setIfInBounds_toArray, List.set_cons_zero, List.set_cons_succ]
          refine wpAnyH_take (i := 10) (oi := ?_) (v := ?_) ?_ ?_ ?_ ?_ ?_ ?_ ?_ ?_
          rotate_left 2
          · simp only [List.getElem?_toArray, List.getElem?_cons_succ, List.getElem?_cons_zero]; rfl
          · kernel_rfl
          · kernel_rfl
          · kernel_rfl
          · exact fun _ _ _ h => h
          · refine Or.inl ⟨by rfl, ?_⟩
            intro w' hSw
            (try dsimp only at hSw)
            go_simp
            all_goals (with_reducible rfl)
          · assumption
          try simp only [Act.put, List.setIfInBounds_toArray, List.set_cons_zero, List.set_cons_succ]
          refine wpAnyH_take (i := 11) (oi := ?_) (v := ?_) ?_ ?_ ?_ ?_ ?_ ?_ ?_ ?_
          rotate_left 2
          · simp only [List.getElem?_toArray, List.getElem?_cons_succ, List.getElem?_cons_zero]; rfl
          · kernel_rfl
          · kernel_rfl
          · kernel_rfl
          · exact fun _ _ _ h => h
          · refine Or.inl ⟨by rfl, ?_⟩
            intro w' hSw
            (try dsimp only at hSw)
            go_simp
            all_goals (with_reducible rfl)
          · assumption
          try simp only [Act.put, List.setIfInBounds_toArray, List.set_cons_zero, List.set_cons_succ]
          refine wpAnyH_take (i := 12) (oi := ?_) (v := ?_) ?_ ?_ ?_ ?_ ?_ ?_ ?_ ?_
          rotate_left 2
          · simp only [List.getElem?_toArray, List.getElem?_cons_succ, List.getElem?_cons_zero]; rfl
          · kernel_rfl
          · kernel_rfl
          · kernel_rfl
          · exact fun _ _ _ h => h
          · refine Or.inl ⟨by rfl, ?_⟩
            intro w' hSw
            (try dsimp only at hSw)
            go_simp
            all_goals (with_reducible rfl)
          · assumption
          try simp only [Act.put, List.setIfInBounds_toArray, List.set_cons_zero, List.set_cons_succ]
          refine wpAnyH_take (i := 13) (oi := ?_) (v := ?_) ?_ ?_ ?_ ?_ ?_ ?_ ?_ ?_
          rotate_left 2
          · simp only [List.getElem?_toArray, List.getElem?_cons_succ, List.getElem?_cons_zero]; rfl
          · kernel_rfl
          · kernel_rfl
          · kernel_rfl
          · exact fun _ _ _ h => h
          · refine Or.inl ⟨by rfl, ?_⟩
            intro w' hSw
            (try dsimp only at hSw)
            go_simp
            all_goals (with_reducible rfl)
          · assumption
          try simp only [Act.put, List.setIfInBounds_toArray, List.set_cons_zero, List.set_cons_succ]
          refine wpAnyH_take (i := 14) (oi := ?_) (v := ?_) ?_ ?_ ?_ ?_ ?_ ?_ ?_ ?_
          rotate_left 2
          · simp only [List.getElem?_toArray, List.getElem?_cons_succ, List.getElem?_cons_zero]; rfl
          · kernel_rfl
          · kernel_rfl
          · kernel_rfl
          · exact fun _ _ _ h => h
          · refine Or.inl ⟨by rfl, ?_⟩
            intro w' hSw
            (try dsimp only at hSw)
            go_simp
            all_goals (with_reducible rfl)
          · assumption
          try simp only [Act.put, List.setIfInBounds_toArray, List.set_cons_zero, List.set_cons_succ]
          refine wpAnyH_take (i := 15) (oi := ?_) (v := ?_) ?_ ?_ ?_ ?_ ?_ ?_ ?_ ?_
          rotate_left 2
          · simp only [List.getElem?_toArray, List.getElem?_cons_succ, List.getElem?_cons_zero]; rfl
          · kernel_rfl
          · kernel_rfl
          · kernel_rfl
          · exact fun _ _ _ h => h
          · refine Or.inl ⟨by rfl, ?_⟩
            intro w' hSw
            (try dsimp only at hSw)
            go_simp
            all_goals (with_reducible rfl)
          · assumption
          try simp only [Act.put, List.setIfInBounds_toArray, List.set_cons_zero, List.set_cons_succ]
          refine wpAnyH_take (i := 20) (oi := ?_) (v := ?_) ?_ ?_ ?_ ?_ ?_ ?_ ?_ ?_
          rotate_left 2
          · simp only [List.getElem?_toArray, List.getElem?_cons_succ, List.getElem?_cons_zero]; rfl
          · kernel_rfl
          · kernel_rfl
          · kernel_rfl
          · exact fun _ _ _ h => h
          · refine Or.inl ⟨by rfl, ?_⟩
            intro w' hSw
            (try dsimp only at hSw)
            go_simp
            all_goals (with_reducible rfl)
          · assumption
          try simp only [Act.put, List.setIfInBounds_toArray, List.set_cons_zero, List.set_cons_succ]
          refine wpAnyH_ready (rs := [16]) (by kernel_rfl) (by simp) ?_
          refine AllReadyH.cons (o := ?_) ?_ ?_ ?_
          rotate_left 1
          · simp only [List.getElem?_toArray, List.getElem?_cons_succ, List.getElem?_cons_zero]; rfl
          rotate_left 1
          · exact AllReadyH.nil
          intro K hK
          go_simp
          ((with_reducible refine (CF.out _ D3.out).mono ?_); rintro e w4 ⟨rfl, b4⟩; have F4 := Lib.hid (And.intro (below_in D3.out b4) (G3.out.keep b4)); clear b4)
          refine hK.out _ _ (And.intro (SB.out _ F4.out.1) (F4.out.2.rd 0)) (fun hHeld => ?_)
          clear hK K
          try simp only [Act.put, List.setIfInBounds_toArray, List.set_cons_zero, List.set_cons_succ]
          refine wpAnyH_take (i := 17) (oi := ?_) (v := ?_) ?_ ?_ ?_ ?_ ?_ ?_ ?_ ?_
          rotate_left 2
          · simp only [List.getElem?_toArray, List.getElem?_cons_succ, List.getElem?_cons_zero]; rfl
          · kernel_rfl
          · kernel_rfl
          · kernel_rfl
          · exact fun _ _ _ h => h
          · refine Or.inl ⟨by rfl, ?_⟩
            intro w' hSw
            (try dsimp only at hSw)
            go_simp
            all_goals (with_reducible rfl)
          · assumption
          try simp only [Act.put, List.setIfInBounds_toArray, List.set_cons_zero, List.set_cons_succ]
          refine wpAnyH_take (i := 18) (oi := ?_) (v := ?_) ?_ ?_ ?_ ?_ ?_ ?_ ?_ ?_
          rotate_left 2
          · simp only [List.getElem?_toArray, List.getElem?_cons_succ, List.getElem?_cons_zero]; rfl
          · kernel_rfl
          · kernel_rfl
          · kernel_rfl
          · exact fun _ _ _ h => h
          · refine Or.inl ⟨by rfl, ?_⟩
            intro w' hSw
            (try dsimp only at hSw)
            go_simp
            all_goals (with_reducible rfl)
          · assumption
          try simp only [Act.put, List.setIfInBounds_toArray, List.set_cons_zero, List.set_cons_succ]
          refine wpAnyH_take (i := 19) (oi := ?_) (v := ?_) ?_ ?_ ?_ ?_ ?_ ?_ ?_ ?_
          rotate_left 2
          · simp only [List.getElem?_toArray, List.getElem?_cons_succ, List.getElem?_cons_zero]; rfl
          · kernel_rfl
          · kernel_rfl
          · kernel_rfl
          · exact fun _ _ _ h => h
          · refine Or.inl ⟨by rfl, ?_⟩
            intro w' hSw
            (try dsimp only at hSw)
            go_simp
            all_goals (with_reducible rfl)
          · assumption
          try simp only [Act.put, List.setIfInBounds_toArray, List.set_cons_zero, List.set_cons_succ]
          refine wpAnyH_take (i := 21) (oi := ?_) (v := ?_) ?_ ?_ ?_ ?_ ?_ ?_ ?_ ?_
          rotate_left 2
          · simp only [List.getElem?_toArray, List.getElem?_cons_succ, List.getElem?_cons_zero]; rfl
          · kernel_rfl
          · kernel_rfl
          · kernel_rfl
          · exact fun _ _ _ h => h
          · refine Or.inl ⟨by rfl, ?_⟩
            intro w' hSw
            (try dsimp only at hSw)
            go_simp
            all_goals (with_reducible rfl)
          · assumption
          try simp only [Act.put, List.setIfInBounds_toArray, List.set_cons_zero, List.set_cons_succ]
          refine wpAnyH_take (i := 22) (oi := ?_) (v := ?_) ?_ ?_ ?_ ?_ ?_ ?_ ?_ ?_
          rotate_left 2
          · simp only [List.getElem?_toArray, List.getElem?_cons_succ, List.getElem?_cons_zero]; rfl
          · kernel_rfl
          · kernel_rfl
          · kernel_rfl
          · exact fun _ _ _ h => h
          · refine Or.inl ⟨by rfl, ?_⟩
            intro w' hSw
            (try dsimp only at hSw)
            go_simp
            all_goals (with_reducible rfl)
          · assumption
          try simp only [Act.put, List.setIfInBounds_toArray, List.set_cons_zero, List.set_cons_succ]
          refine wpAnyH_done (by kernel_rfl) ?_ _
          clear hHeld hHeld2 hcv
          have z7 := (T2.out.2.1.keep F4.out.1).rd
          have z7w := (T2.out.2.1.keep F4.out.1).wr
          have e3 : IntKind.i64.wrap ((j : Int) + 1) = (j : Int) + 1 := by rw [IntKind.wrap_i64]; have := HJ.out.2; omega
          have Z7 := Lib.hid (T2.out.2.1.keep F4.out.1)
          gi_wp2
          rw [setCell_obj Z7.out]
          have f5 : Fr (fun k => k = b7) w4 (setObj w4 b7 (.cells ((#[.int .i64 (j : Int)] : Array Value).setIfInBounds 0 (.int .i64 ((j : Int) + 1))) 3 (0, 0))) := Fr.setObj (F := fun k => k = b7) (Fr.refl _ _) rfl _
          have hq := HQ.out
          have h7 := HB7.out
          have hqp := hq.1 Q.p (Or.inr (Or.inr rfl))
          refine ⟨(keepsFrom_below F4.out.1).trans (keepsFrom_fr f5 (fun k o hk hB => by have := lt_of_block K8.out; omega)), (KeepB.below F4.out.1).trans (KeepB.fr f5 (fun k hk e => by have := (hq.1 k hk).2; omega)), ?_, ?_, Nat.le_trans T2.out.2.2.2 (Nat.le_trans F4.out.1.size f5.size)⟩
          · have s4 := T2.out.1.keep F4.out.1
            exact ⟨s4.at_.fr f5 (fun k hk e => by have := (hq.1 k hk).2; omega), s4.k0.fr f5 (by omega), s4.k1.fr f5 (by omega), s4.k5.fr f5 (by omega), s4.bl.trans (f5.below s4.bl.size (fun k hk => by omega))⟩
          · have : ((pre ++ [(kyA j, (j : Int), (j : Int), (0 : Int), (0 : Int))]).length : Int) = (j : Int) + 1 := by rw [List.length_append, ← HJ.out.1]; simp
            rw [this]
            exact setObj_at (lt_of_block Z7.out) _
      case done =>
        rintro D X hD ⟨hS, h7, hsz⟩ hd
        have HX := Lib.hid (And.intro hS (And.intro h7 (And.intro hD hd)))
        have z1 := hS.k1.rd
        have z1w := hS.k1.wr
        have z7 := h7.rd
        rw [List.length_map, List.length_range] at z7
        have z0 := hS.k0.rd
        have n17 : b1 ≠ b7 := by have := HQ.out.2; have := HB7.out; have := lt_of_block hS.k5; have := HQ.out.1 Q.p (Or.inr (Or.inr rfl)); omega
        clear hS h7 hsz hD hd hit a8 k5
        go_wp2
        have hq := HQ.out
        have h0 := S8.out.bl.size
        exact bodyM_law rfl Try.underlying4 rfl rfl rfl HX.out.1.k1 HX.out.2.2.2 HX.out.1.bl (by omega) (by have := HX.out.2.2.1; omega)
      case stop =>
        rintro D c pre X hD hpre ⟨rfl, h1, h2⟩ hd
        have HX := Lib.hid (And.intro h1 (And.intro h2 (And.intro hD hd)))
        have z1 := h1.k1.rd
        have z1w := h1.k1.wr
        have z7 := h2.rd
        have z0 := h1.k0.rd
        have n17 : b1 ≠ b7 := by have := HQ.out.2; have := HB7.out; have := lt_of_block h1.k5; have := HQ.out.1 Q.p (Or.inr (Or.inr rfl)); omega
        clear h1 h2 hD hd hit a8 k5
        have hq := HQ.out
        have h0 := S8.out.bl.size
        by_cases hsi : stop = (i : Int)
        · subst hsi
          refine wpIn_exit ?_
          go_wp2
          exact bodyM_law rfl Try.underlying4 rfl rfl rfl HX.out.1.k1 HX.out.2.2.2 HX.out.1.bl (by omega) (by have := HX.out.2.2.1; omega)
        · have t5 : (stop == (i : Int)) = false := by simpa using hsi
          refine wpIn_exit ?_
          go_wp2
          exact bodyM_law rfl Try.underlying4 rfl rfl rfl HX.out.1.k1 HX.out.2.2.2 HX.out.1.bl (by omega) (by have := HX.out.2.2.1; omega)
end Go.Proofs.Ytojbhmchpglmgaa
