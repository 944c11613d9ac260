/- The contracts of layer 5 (index): Find, Put, Remove, New. -/
import Derived.Test.YtnpiimaapholiaaIxE
namespace Go.Proofs.Ytnpiimaapholiaa
set_option linter.unusedSimpArgs false
set_option linter.unusedVariables false
open Go.ChangeShapes Go.WideShapes Go.ChangeAt Go.RowKit
/-- where an index and its store lie, and its function. -/
structure IxN where
  x : Nat
  b : Nat
  X : Nat
  A : Nat
  B : Nat
  g : Nat
  gb : Nat
  gs : Nat
  gf : Nat
  n : Nat
def IxN.h (N : IxN) : ByteArray → Nat := ixH N.X N.A N.B (2 * N.n + 1)
/-- the blocks that calls change. -/
def IxN.F (N : IxN) (k : Nat) : Prop := k = N.g ∨ kyF N.b N.gb N.gs N.gf k
/-- an index, with its keys. -/
def IdxIn (w : World) (N : IxN) (fl : List Nat) (K : Nat → Option ByteArray) : Prop :=
  ∃ L, IxMem w N.x N.b N.X N.A N.B N.g N.gb N.gs N.gf N.n (2 * N.n + 1) fl K L ∧ Ix.Tab (2 * N.n + 1) N.n N.h K (fun q => L.getD q 0)
theorem IdxIn.keep {W w : World} {N : IxN} {fl : List Nat} {K : Nat → Option ByteArray} (h : IdxIn W N fl K) (hb : Below W.heap.size W w) : IdxIn w N fl K := by
  obtain ⟨L, hm, ht⟩ := h
  exact ⟨L, hm.keep hb, ht⟩
theorem IdxIn.ks {w : World} {N : IxN} {fl : List Nat} {K : Nat → Option ByteArray} (h : IdxIn w N fl K) : KeysIn w N.b N.gb N.gs N.gf N.n fl K := by
  obtain ⟨L, hm, ht⟩ := h; exact hm.ks
theorem IdxIn.key {w : World} {N : IxN} {fl : List Nat} {K : Nat → Option ByteArray} (h : IdxIn w N fl K) {i j : Nat} {s : ByteArray} (hi : K i = some s) (hj : K j = some s) : i = j := by
  obtain ⟨L, hm, ht⟩ := h; exact ht.key i j s hi hj
theorem IdxIn.lt {w : World} {N : IxN} {fl : List Nat} {K : Nat → Option ByteArray} (h : IdxIn w N fl K) : ∀ k, (N.F k ∨ k = N.x) → k < w.heap.size := by
  obtain ⟨L, hm, ht⟩ := h
  have h1 := hm.ks.lt
  have h2 := lt_of_block hm.hg
  have h3 := lt_of_block hm.hx
  rintro k ((hk | hk | hk | hk | hk) | hk) <;> omega
/-- nothing that an index stands on is changed. -/
theorem KeysIn.fr {W w : World} {b gb gs gf n : Nat} {fl : List Nat} {K : Nat → Option ByteArray} {F : Nat → Prop} (h : KeysIn W b gb gs gf n fl K) (hf : Fr F W w) (h1 : ¬ F b) (h2 : ¬ F gb) (h3 : ¬ F gs) (h4 : ¬ F gf) : KeysIn w b gb gs gf n fl K := by
  obtain ⟨bs, ss, fs, h⟩ := h
  exact ⟨bs, ss, fs, h.hb.fr hf h1, h.hgb.fr hf h2, h.hgs.fr hf h3, h.hgf.fr hf h4, h.lb, h.ls, h.lf, h.vs, h.vf, h.vb, h.pl, h.n1, h.ne⟩
theorem IdxIn.fr {W w : World} {N : IxN} {fl : List Nat} {K : Nat → Option ByteArray} {F : Nat → Prop} (h : IdxIn W N fl K) (hf : Fr F W w) (h1 : ∀ k, (N.F k ∨ k = N.x) → ¬ F k) : IdxIn w N fl K := by
  obtain ⟨L, hm, ht⟩ := h
  exact ⟨L, ⟨hm.hx.fr hf (h1 _ (Or.inr rfl)), hm.hg.fr hf (h1 _ (Or.inl (Or.inl rfl))), hm.len, hm.sz, hm.ks.fr hf (h1 _ (Or.inl (Or.inr (Or.inl rfl)))) (h1 _ (Or.inl (Or.inr (Or.inr (Or.inl rfl))))) (h1 _ (Or.inl (Or.inr (Or.inr (Or.inr (Or.inl rfl)))))) (h1 _ (Or.inl (Or.inr (Or.inr (Or.inr (Or.inr rfl)))))), hm.lX, hm.lA, hm.lB, hm.ne⟩, ht⟩
section
variable {N : IxN} {fl : List Nat} {K : Nat → Option ByteArray}
set_option maxHeartbeats 1000000 in
theorem ixfind_yes (i : Nat) (s : ByteArray) (hs : s.size ≤ maxLen) (w : World) (h : IdxIn w N fl K) (hk : K i = some s) :
    Calls Try.prog 40 #[.pointer (some ⟨N.x, 0, none⟩), .string s] w fun e w' => e = .returned (.int .i64 (i : Int)) ∧ Below w.heap.size w w' := by
  obtain ⟨L, h, t⟩ := h
  have C1 := Lib.hid (ixseek_yes i s hs hk w h t)
  have hn := h.ks.pl.2.1
  have hi := t.lt i s hk
  obtain ⟨m, hm⟩ : ∃ m, m = 2 * N.n + 1 := ⟨_, rfl⟩
  rw [← hm] at h C1
  have HH := Lib.hid h
  have t0 : (m : Int) ≤ 131073 := by omega
  have t1 : (i : Int) ≤ 65536 := by omega
  clear h t hs hk hn hi hm
  go_enter Try.func40, Try.ntmps40
  go_wp2_with (fail)
  refine C1.out.mono ?_
  rintro e w1 ⟨p, rfl, hp, hT, hb⟩
  obtain ⟨v, hv⟩ : ∃ v, v = i + 1 := ⟨_, rfl⟩
  have M1 := Lib.hid (HH.out.keep hb)
  have k := M1.out.hx.rd
  have k2 : w1.cell? ⟨N.g, p, none⟩ = some (.int .u32 (v : Int)) := by rw [blk_cell M1.out.hg, natC_get _ _ _ (by rw [M1.out.len]; exact hp), hT, hv]
  have t3 : (p : Int) < (m : Int) := by omega
  have e1 : IntKind.i64.wrap (v : Int) = (v : Int) := by rw [IntKind.wrap_i64]; omega
  have e2 : (v : Int) - 1 = (i : Int) := by omega
  have t4 : (v : Int) ≤ 65537 := by omega
  clear hT hv
  go_wp2
  go_ret
  exact ⟨rfl, hb⟩
theorem ixfind_no (s : ByteArray) (hs : s.size ≤ maxLen) (w : World) (h : IdxIn w N fl K) (hk : ∀ i, K i ≠ some s) :
    Calls Try.prog 40 #[.pointer (some ⟨N.x, 0, none⟩), .string s] w fun e w' => e = .returned (.int .i64 (-1)) ∧ Below w.heap.size w w' := by
  obtain ⟨L, h, t⟩ := h
  have C1 := Lib.hid (ixseek_no s hs hk w h t)
  clear h t hs hk
  go_enter Try.func40, Try.ntmps40
  go_wp2_with (fail)
  refine C1.out.mono ?_
  rintro e w1 ⟨p, rfl, hp, hb⟩
  clear hp
  go_wp2
  go_ret
  exact ⟨rfl, hb⟩
theorem ixput_has (i : Nat) (s : ByteArray) (hs : s.size ≤ maxLen) (w : World) (h : IdxIn w N fl K) (hk : K i = some s) :
    Calls Try.prog 41 #[.pointer (some ⟨N.x, 0, none⟩), .string s] w fun e w' => e = .returned (.int .i64 (-1)) ∧ Below w.heap.size w w' := by
  obtain ⟨L, h, t⟩ := h
  have C1 := Lib.hid (ixseek_yes i s hs hk w h t)
  clear h t hs hk
  go_enter Try.func41, Try.ntmps41
  go_wp2_with (fail)
  refine C1.out.mono ?_
  rintro e w1 ⟨p, rfl, hp, hT, hb⟩
  clear hp hT
  go_wp2
  go_ret
  exact ⟨rfl, hb⟩
set_option maxHeartbeats 1000000 in
theorem ixput_full (s : ByteArray) (hs : s.size ≤ maxLen) (w : World) (h : IdxIn w N fl K) (hk : ∀ i, K i ≠ some s) (hf : 64 < s.size ∨ fl = []) :
    Calls Try.prog 41 #[.pointer (some ⟨N.x, 0, none⟩), .string s] w fun e w' => e = .returned (.int .i64 (-1)) ∧ Below w.heap.size w w' := by
  obtain ⟨L, h, t⟩ := h
  have C1 := Lib.hid (ixseek_no s hs hk w h t)
  have C2 := Lib.hid (fun wx (hx : Below w.heap.size w wx) => put_no s wx (h.ks.keep hx) hf)
  have HH := Lib.hid h
  clear h t hs hk hf
  go_enter Try.func41, Try.ntmps41
  go_wp2_with (fail)
  refine C1.out.mono ?_
  rintro e w1 ⟨p, rfl, hp, hb⟩
  have k := (HH.out.keep hb).hx.rd
  have t3 : decide ((p : Int) < 0) = false := by rw [decide_eq_false_iff_not]; omega
  clear hp
  go_wp2_with (go_at_call 46; ((with_reducible refine (C2.out _ hb).mono ?_); rintro e w3 ⟨rfl, rfl⟩))
  go_ret
  exact ⟨rfl, hb⟩
set_option maxHeartbeats 2000000 in
theorem ixput_yes (i : Nat) (s : ByteArray) (w : World) (h : IdxIn w N (fl ++ [i]) K) (hk : ∀ i, K i ≠ some s) (hs : s.size ≤ 64) :
    Calls Try.prog 41 #[.pointer (some ⟨N.x, 0, none⟩), .string s] w fun e w' => e = .returned (.int .i64 (i : Int)) ∧ IdxIn w' N fl (fun j => if j = i then some s else K j) ∧ Fr N.F w w' := by
  obtain ⟨L, h, t⟩ := h
  have C1 := Lib.hid (ixseek_no s (by unfold maxLen; omega) hk w h t)
  have C2 := Lib.hid (fun wx (hx : Below w.heap.size w wx) => put_yes i s wx (h.ks.keep hx) hs)
  have hfr := h.ks.pl.1.free (i := i) (by simp)
  have hn := h.ks.pl.2.1
  obtain ⟨m, hm⟩ : ∃ m, m = 2 * N.n + 1 := ⟨_, rfl⟩
  have t0 : (m : Int) ≤ 131073 := by omega
  have HI := Lib.hid hfr
  have hh : N.h = ixH N.X N.A N.B m := by unfold IxN.h; rw [hm]
  rw [← hm] at h t C1
  rw [hh] at t
  have HH := Lib.hid h
  have TT := Lib.hid t
  have HM := Lib.hid (And.intro hm hh)
  have t1 : (i : Int) ≤ 65536 := by omega
  clear h t hk hs hfr hn hm hh
  go_enter Try.func41, Try.ntmps41
  go_wp2_with (fail)
  refine C1.out.mono ?_
  rintro e w1 ⟨p, rfl, ⟨hp, hT, hfar⟩, hb⟩
  have k := (HH.out.keep hb).hx.rd
  have t3 : decide ((p : Int) < 0) = false := by rw [decide_eq_false_iff_not]; omega
  have FA := Lib.hid (And.intro hT hfar)
  have B1 := Lib.hid hb
  have HP := Lib.hid hp
  have t5 : (p : Int) < (m : Int) := by omega
  clear hT hfar hb hp
  go_upto_region 6 with (go_at_call 46; ((with_reducible refine (C2.out _ B1.out).mono ?_); rintro e w3 ⟨rfl, hk3, hf3⟩; have K3 := Lib.hid hk3; have F3 := Lib.hid hf3; clear hk3 hf3))
  have ne := HH.out.ne
  have M1 := HH.out.keep B1.out
  have M3 : IxMem w3 N.x N.b N.X N.A N.B N.g N.gb N.gs N.gf N.n m fl (fun j => if j = i then some s else K j) L :=
    ⟨M1.hx.fr F3.out (by rintro (e | e | e | e) <;> omega), M1.hg.fr F3.out (by rintro (e | e | e | e) <;> omega), M1.len, M1.sz, K3.out, M1.lX, M1.lA, M1.lB, ne⟩
  have MM := Lib.hid M3
  clear k M1 M3 ne
  have k := MM.out.hx.rd
  have k2 : w3.cell? ⟨N.g, p, none⟩ = some (.int .u32 0) := by rw [blk_cell MM.out.hg, natC_get _ _ _ (by rw [MM.out.len]; exact HP.out), FA.out.1]; rfl
  have k0 := MM.out.hg.wr
  obtain ⟨v, hv⟩ : ∃ v, v = i + 1 := ⟨_, rfl⟩
  have e1 : (i : Int) + 1 = (v : Int) := by omega
  have e2 : IntKind.u32.wrap (v : Int) = (v : Int) := by rw [IntKind.wrap_u32]; omega
  have HV := Lib.hid hv
  clear hv
  go_wp2
  go_ret
  have hll : (L.set p v).length = m := by rw [List.length_set]; exact MM.out.len
  rw [setCell_obj MM.out.hg, natC_set]
  refine ⟨rfl, ⟨L.set p v, ?_, ?_⟩, ?_⟩
  · rw [← HM.out.1]; exact MM.out.set _ hll
  · rw [getD_setN _ _ _ (by rw [MM.out.len]; exact HP.out), HV.out, ← HM.out.1, HM.out.2]
    exact Ix.tab_put TT.out HP.out FA.out.2 FA.out.1 HI.out.1 HI.out.2
  · exact Fr.setObj (F := N.F) (((Fr.of_below B1.out).trans F3.out).mono (fun k hk => Or.inr hk)) (Or.inl rfl) _
theorem ixremove_no (s : ByteArray) (hs : s.size ≤ maxLen) (w : World) (h : IdxIn w N fl K) (hk : ∀ i, K i ≠ some s) :
    Calls Try.prog 44 #[.pointer (some ⟨N.x, 0, none⟩), .string s] w fun e w' => e = .returned (.int .i64 (-1)) ∧ Below w.heap.size w w' := by
  obtain ⟨L, h, t⟩ := h
  have C1 := Lib.hid (ixseek_no s hs hk w h t)
  clear h t hs hk
  go_enter Try.func44, Try.ntmps44
  go_wp2_with (fail)
  refine C1.out.mono ?_
  rintro e w1 ⟨p, rfl, hp, hb⟩
  clear hp
  go_wp2
  go_ret
  exact ⟨rfl, hb⟩
set_option maxHeartbeats 2000000 in
theorem ixremove_yes (i : Nat) (s : ByteArray) (hs : s.size ≤ maxLen) (w : World) (h : IdxIn w N fl K) (hk : K i = some s) :
    Calls Try.prog 44 #[.pointer (some ⟨N.x, 0, none⟩), .string s] w fun e w' => e = .returned (.int .i64 (i : Int)) ∧ IdxIn w' N (fl ++ [i]) (fun j => if j = i then none else K j) ∧ Fr N.F w w' := by
  obtain ⟨L, h, t⟩ := h
  have C1 := Lib.hid (ixseek_yes i s hs hk w h t)
  have hn := h.ks.pl.2.1
  have hi := t.lt i s hk
  have t1 : (i : Int) ≤ 65536 := by omega
  obtain ⟨m, hm⟩ : ∃ m, m = 2 * N.n + 1 := ⟨_, rfl⟩
  have t0 : (m : Int) ≤ 131073 := by omega
  have hh : N.h = ixH N.X N.A N.B m := by unfold IxN.h; rw [hm]
  rw [← hm] at h t C1
  rw [hh] at t
  have HH := Lib.hid h
  have TT := Lib.hid t
  have HM := Lib.hid (And.intro hm hh)
  have HK := Lib.hid hk
  clear h t hs hk hn hi hm hh
  go_enter Try.func44, Try.ntmps44
  go_wp2_with (fail)
  refine C1.out.mono ?_
  rintro e w1 ⟨p, rfl, hp, hT, hb⟩
  obtain ⟨v, hv⟩ : ∃ v, v = i + 1 := ⟨_, rfl⟩
  have M1 := Lib.hid (HH.out.keep hb)
  have k := M1.out.hx.rd
  have k2 : w1.cell? ⟨N.g, p, none⟩ = some (.int .u32 (v : Int)) := by rw [blk_cell M1.out.hg, natC_get _ _ _ (by rw [M1.out.len]; exact hp), hT, hv]
  have t3 : (p : Int) < (m : Int) := by omega
  have e1 : IntKind.i64.wrap (v : Int) = (v : Int) := by rw [IntKind.wrap_i64]; omega
  have e2 : (v : Int) - 1 = (i : Int) := by omega
  have t4 : (v : Int) ≤ 65537 := by omega
  have CE := Lib.hid (ixempty_any i p s w1 M1.out TT.out hp hT HK.out)
  have B1 := Lib.hid hb
  clear hT hv hb hp
  go_upto_region 6 with (go_at_call 47; ((with_reducible refine CE.out.mono ?_); rintro e w2 ⟨rfl, L', hm2, ht2, hf2⟩; have M2 := Lib.hid hm2; have T2 := Lib.hid ht2; have F2 := Lib.hid hf2; clear hm2 ht2 hf2))
  clear k k2
  have k := M2.out.hx.rd
  have CF := Lib.hid (free_yes i w2 M2.out.ks (by rw [HK.out]; rfl))
  go_wp2_with (go_at_call 48; ((with_reducible refine CF.out.mono ?_); rintro e w3 ⟨rfl, hk3, hf3⟩; have K3 := Lib.hid hk3; have F3 := Lib.hid hf3; clear hk3 hf3))
  go_ret
  have ne := HH.out.ne
  have M3 := M2.out
  refine ⟨rfl, ⟨L', ?_, ?_⟩, ?_⟩
  · rw [← HM.out.1]
    exact ⟨M3.hx.fr F3.out (by rintro (e | e | e | e) <;> omega), M3.hg.fr F3.out (by rintro (e | e | e | e) <;> omega), M3.len, M3.sz, K3.out, M3.lX, M3.lA, M3.lB, ne⟩
  · rw [← HM.out.1, HM.out.2]; exact T2.out
  · exact (((Fr.of_below B1.out).trans (F2.out.mono (fun k hk => Or.inl hk)))).trans (F3.out.mono (fun k hk => Or.inr hk))
end
/-! #### none -/
theorem ixfind_nil (s : ByteArray) (w : World) : Calls Try.prog 40 #[.pointer none, .string s] w fun e w' => e = .returned (.int .i64 (-1)) ∧ w = w' := by
  go_enter Try.func40, Try.ntmps40
  go_wp2_with (go_at_call 45; ((with_reducible refine (ixseek_nil _ _).mono ?_); rintro e w' ⟨rfl, rfl⟩))
  go_ret
  exact ⟨rfl, rfl⟩
theorem ixput_nil (s : ByteArray) (w : World) : Calls Try.prog 41 #[.pointer none, .string s] w fun e w' => e = .returned (.int .i64 (-1)) ∧ w = w' := by
  go_enter Try.func41, Try.ntmps41
  go_wp2_with (go_at_call 45; ((with_reducible refine (ixseek_nil _ _).mono ?_); rintro e w' ⟨rfl, rfl⟩))
  go_ret
  exact ⟨rfl, rfl⟩
theorem ixremove_nil (s : ByteArray) (w : World) : Calls Try.prog 44 #[.pointer none, .string s] w fun e w' => e = .returned (.int .i64 (-1)) ∧ w = w' := by
  go_enter Try.func44, Try.ntmps44
  go_wp2_with (go_at_call 45; ((with_reducible refine (ixseek_nil _ _).mono ?_); rintro e w' ⟨rfl, rfl⟩))
  go_ret
  exact ⟨rfl, rfl⟩
theorem ixsize_any (n : Nat) (hn : n ≤ 65536) (w : World) : Calls Try.prog 36 #[.int .i64 (n : Int)] w fun e w' => e = .returned (.int .i64 ((2 * n + 1 : Nat) : Int)) ∧ w = w' := by
  have t1 : (n : Int) ≤ 65536 := by omega
  go_enter Try.func36, Try.ntmps36
  go_wp2
  go_ret
  exact ⟨ret_i (by omega), rfl⟩
theorem ixbytes_any (n : Nat) (hn : n ≤ 65536) (w : World) : Calls Try.prog 35 #[.int .i64 (n : Int)] w fun e w' => e = .returned (.int .i64 (4 * ((2 * n + 1 : Nat) : Int))) ∧ w = w' := by
  have C := Lib.hid (fun w => ixsize_any n hn w)
  obtain ⟨v, hv⟩ : ∃ v, v = 2 * n + 1 := ⟨_, rfl⟩
  rw [← hv] at C ⊢
  have t1 : (v : Int) ≤ 131073 := by omega
  have e1 : IntKind.i64.wrap (v : Int) = (v : Int) := by rw [IntKind.wrap_i64]; omega
  clear hv hn
  go_enter Try.func35, Try.ntmps35
  go_wp2_with (go_at_call 36; ((with_reducible refine (C.out _).mono ?_); rintro e w' ⟨rfl, rfl⟩))
  go_ret
  exact ⟨ret_i (by omega), rfl⟩
theorem ixnew_nil (X A B : Nat) (w : World) : Calls Try.prog 26 #[.pointer none, .agg #[.int .u64 X, .int .u64 A, .int .u64 B]] w fun e w' => e = .returned (.pointer none) ∧ Below w.heap.size w w' := by
  go_enter Try.func26, Try.ntmps26
  go_wp2
  go_ret
  exact ⟨rfl, (Below.refl _ _).alloc (Nat.le_refl _) _⟩
theorem hold_alloc {W1 : World} {rb : Nat} {t : TypeId} {C : Array Value} (h : Blk W1 rb t C) (o : Obj) : (∀ j, (W1.alloc o).drew.cell? ⟨rb, j, none⟩ = C[j]?) ∧ Below W1.heap.size W1 (W1.alloc o).drew :=
  ⟨((h.alloc o).drew).rd, below_draws ((Below.refl _ _).alloc (Nat.le_refl _) _) 1⟩
theorem hold_alloc2 {W1 : World} {rb : Nat} {t : TypeId} {C : Array Value} (h : Blk W1 rb t C) (o o' : Obj) : (∀ j, ((W1.alloc o).alloc o').drew.cell? ⟨rb, j, none⟩ = C[j]?) ∧ Below W1.heap.size W1 ((W1.alloc o).alloc o').drew :=
  ⟨(((h.alloc o).alloc o').drew).rd, below_draws (((Below.refl _ _).alloc (Nat.le_refl _) _).alloc (by simp) _) 1⟩
theorem info_u32 : (Try.prog.info? 82).map (fun i => (i.zero, i.size, i.bytes)) = some (some (.int .u32 0), 1, 4) := by kernel_rfl
theorem natC_zero (k : IntKind) (n : Nat) : numC k (List.replicate n 0) = natC k (List.replicate n 0) := by simp [numC, natC]
set_option maxHeartbeats 2000000 in
theorem ixnew_any (X A B : Nat) (hX : X < 2305843009213693951) (hA : A < 2305843009213693951) (hB : B < 2305843009213693951) (b gb gs gf n : Nat) (fl : List Nat) (w : World) (h : KeysIn w b gb gs gf n fl (fun _ => none)) :
    Calls Try.prog 26 #[.pointer (some ⟨b, 0, none⟩), .agg #[.int .u64 X, .int .u64 A, .int .u64 B]] w fun e w' => ∃ x g, e = .returned (.pointer (some ⟨x, 0, none⟩)) ∧ IdxIn w' ⟨x, b, X, A, B, g, gb, gs, gf, n⟩ fl (fun _ => none) ∧ Below w.heap.size w w' ∧ w.heap.size ≤ x ∧ w.heap.size ≤ g := by
  have hn := h.pl.2.1
  obtain ⟨m, hm⟩ : ∃ m, m = 2 * n + 1 := ⟨_, rfl⟩
  obtain ⟨i0, hi, hz0, hz1, hz2⟩ := info_parts info_u32
  have hmk := make_num (P := Try.prog) (t := 79) (e := 82) Try.underlying79 hi hz0 hz1 hz2 m (by omega) (by omega)
  have t0 : (m : Int) ≤ 131073 := by omega
  have CS := Lib.hid (fun w => ixsize_any n hn w)
  rw [← hm] at CS
  have HH := Lib.hid h
  have HM := Lib.hid (And.intro hm hn)
  clear hi hz0 hz1 hz2 h hn hm
  go_enter Try.func26, Try.ntmps26
  go_upto_region 3 with (fail)
  obtain ⟨w1, hw1, hbk, hbl, hsz⟩ := box_new w #[.int .u64 (X : Int), .int .u64 (A : Int), .int .u64 (B : Int)] 30
  rw [hw1]
  have CL := Lib.hid (fun wx (hx : Below w1.heap.size w1 wx) => len_any wx ((HH.out.keep hbl).keep hx))
  obtain ⟨rb, hrb⟩ : ∃ rb, rb = w.heap.size := ⟨_, rfl⟩
  rw [← hrb] at hbk ⊢
  have k := hbk.rd
  have HB := Lib.hid hbl
  have HS := Lib.hid (And.intro hsz hrb)
  have BK := Lib.hid hbk
  clear hbk hbl hsz hw1 hrb
  have y1 : ∀ j, w1.drew.cell? ⟨rb, j, none⟩ = (#[.int .u64 (X : Int), .int .u64 (A : Int), .int .u64 (B : Int)] : Array Value)[j]? := k
  have y2 : Below w1.heap.size w1 w1.drew := below_draws (Below.refl _ _) 1
  clear k
  go_region_held3 (fun w' => (∀ j, w'.cell? ⟨rb, j, none⟩ = (#[.int .u64 (X : Int), .int .u64 (A : Int), .int .u64 (B : Int)] : Array Value)[j]?) ∧ Below w1.heap.size w1 w') (first | (refine ⟨?_, ?_⟩ <;> assumption) | exact hold_alloc BK.out _ | exact hold_alloc2 BK.out _ _)
    (first
      | (go_at_call 32; ((with_reducible refine (CL.out _ (by assumption)).mono ?_); rintro e w2 ⟨rfl, rfl⟩))
      | (go_at_call 36; ((with_reducible refine (CS.out _).mono ?_); rintro e w3 ⟨rfl, rfl⟩)))
  go_wp2
  go_ret
  obtain ⟨w2, hw2, b2k, b2l, s2⟩ := box_new w1 (numC .u32 (List.replicate m 0)) 82
  rw [hw2]
  obtain ⟨w3, hw3, b3k, b3l, s3⟩ := box_new w2 (ixC b X A B w1.heap.size m) 85
  refine ⟨w1.heap.size + 1, w1.heap.size, rfl, ?_⟩
  have e3 : w2.alloc (.cells #[.pointer (some ⟨b, 0, none⟩), .int .u64 (X : Int), .int .u64 (A : Int), .int .u64 (B : Int), .slice (some ⟨w1.heap.size, 0, none⟩) m m] 85) = w3 := hw3
  rw [e3]
  have hlt := HH.out.lt
  have hs := HS.out
  have bb := HB.out
  have bs := bb.size
  have l1 := below_in (below_in bb b2l) b3l
  have l2 : Below w.heap.size w w3.drew := below_draws l1 1
  have hm := HM.out.1
  refine ⟨⟨List.replicate m 0, ⟨?_, ?_, ?_, rfl, HH.out.keep l2, hX, hA, hB, ?_⟩, ?_⟩, l2, by omega, by omega⟩
  · rw [s2] at b3k
    rw [← hm]
    exact b3k
  · have := b2k.keep b3l
    rw [natC_zero] at this
    exact this
  · rw [List.length_replicate]; exact hm
  · show (w1.heap.size + 1 ≠ w1.heap.size ∧ w1.heap.size + 1 ≠ b ∧ w1.heap.size + 1 ≠ gb ∧ w1.heap.size + 1 ≠ gs ∧ w1.heap.size + 1 ≠ gf ∧ w1.heap.size ≠ b ∧ w1.heap.size ≠ gb ∧ w1.heap.size ≠ gs ∧ w1.heap.size ≠ gf)
    omega
  · have e : (fun q => (List.replicate m 0).getD q 0) = fun _ => 0 := by
      funext q
      simp only [List.getD]
      by_cases hq : q < m
      · simp [hq]
      · simp [hq]
    rw [e]
    exact Ix.tab_new n _ (fun s => ixH_lt X A B (by omega) s)
end Go.Proofs.Ytnpiimaapholiaa
