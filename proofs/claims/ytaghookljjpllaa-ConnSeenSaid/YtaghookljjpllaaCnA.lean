/- The contracts of layer 16 (conn): New, Open, Shut, IsOpen, Drain, Waits, Room. -/
import Derived.Test.YtaghookljjpllaaCnD
import Derived.Test.YtaghookljjpllaaBt
import Derived.Test.YtaghookljjpllaaFaA
namespace Go.Proofs.Ytaghookljjpllaa
set_option linter.unusedSimpArgs false
set_option linter.unusedVariables false
open Go.ChangeShapes Go.WideShapes Go.ChangeAt Go.RowKit
/-- where a connection lies. -/
structure CnN where
  c : Nat
  ob : Nat
  og : Nat
  size : Nat
  rules : Int
/-- what it has. -/
structure CnS where
  z : List Int
  err : Int
  out : List Int
  op : Bool
abbrev cnT (K : CnN) (op : Bool) : List Value := [.pointer (some ⟨K.ob, 0, none⟩), .int .i64 K.rules, .bool op]
structure CnAt (w : World) (K : CnN) (σ : CnS) : Prop where
  d : DecX 51 (cnT K σ.op) w K.c σ.z K.rules σ.err
  b : BufAt w K.ob K.og K.size σ.out
  ne : K.c ≠ K.ob ∧ K.c ≠ K.og
def CnN.F (K : CnN) (b : Nat) : Prop := b = K.c ∨ b = K.ob ∨ b = K.og
section
variable {w w' : World} {K : CnN} {σ : CnS}
theorem CnAt.fr {F : Nat → Prop} (h : CnAt w K σ) (hf : Fr F w w') (hF : ∀ b, K.F b → ¬ F b) : CnAt w' K σ :=
  ⟨h.d.fr hf (hF _ (Or.inl rfl)), h.b.fr hf (hF _ (Or.inr (Or.inl rfl))) (hF _ (Or.inr (Or.inr rfl))), h.ne⟩
theorem CnAt.keep (h : CnAt w K σ) (hb : Below w.heap.size w w') : CnAt w' K σ := h.fr (F := fun _ => False) (Fr.of_below hb) (fun _ _ => id)
theorem CnAt.lt (h : CnAt w K σ) : ∀ b, K.F b → b < w.heap.size := by
  rintro b (rfl | rfl | rfl)
  · exact h.d.lt
  · exact h.b.lt.1
  · exact h.b.lt.2
theorem CnAt.cells (h : CnAt w K σ) : w.cell? ⟨K.c, 78, none⟩ = some (.pointer (some ⟨K.ob, 0, none⟩)) ∧ w.cell? ⟨K.c, 79, none⟩ = some (.int .i64 K.rules) ∧ w.cell? ⟨K.c, 80, none⟩ = some (.bool σ.op) :=
  ⟨h.d.cell 0, h.d.cell 1, h.d.cell 2⟩
theorem CnAt.setOp (h : CnAt w K σ) (v : Bool) : ∃ w', w.setCell ⟨K.c, 80, none⟩ (.bool v) = w' ∧ CnAt w' K ⟨σ.z, σ.err, σ.out, v⟩ ∧ Fr (fun k => k = K.c) w w' := by
  obtain ⟨w2, e, d, f, s⟩ := h.d.set 2 (.bool v)
  exact ⟨w2, e, ⟨d, h.b.fr f (fun e => h.ne.1 e.symm) (fun e => h.ne.2 e.symm), h.ne⟩, f⟩
theorem cisopen_nil (w : World) : Calls Try.prog 17 #[.pointer none] w fun e w' => e = .returned (.bool false) ∧ w = w' := by
  go_enter Try.func17, Try.ntmps17
  go_wp2
  go_ret
  exact ⟨rfl, rfl⟩
theorem cisopen_any (w : World) (h : CnAt w K σ) : Calls Try.prog 17 #[.pointer (some ⟨K.c, 0, none⟩)] w fun e w' => e = .returned (.bool σ.op) ∧ w = w' := by
  have k := h.cells.2.2
  clear h
  go_enter Try.func17, Try.ntmps17
  go_wp2
  go_ret
  exact ⟨rfl, rfl⟩
theorem cwaits_nil (w : World) : Calls Try.prog 18 #[.pointer none] w fun e w' => e = .returned (.int .i64 0) ∧ w = w' := by
  go_enter Try.func18, Try.ntmps18
  go_wp2
  go_ret
  exact ⟨rfl, rfl⟩
theorem cwaits_any (w : World) (h : CnAt w K σ) : Calls Try.prog 18 #[.pointer (some ⟨K.c, 0, none⟩)] w fun e w' => e = .returned (.int .i64 (σ.out.length : Int)) ∧ w = w' := by
  have k := h.cells.1
  have C := Lib.hid (oblen_any _ _ _ _ w h.b)
  clear h
  go_enter Try.func18, Try.ntmps18
  go_wp2_with (go_at_call 31; ((with_reducible refine C.out.mono ?_); rintro e w1 ⟨rfl, rfl⟩))
  go_ret
  exact ⟨rfl, rfl⟩
theorem croom_nil (w : World) : Calls Try.prog 19 #[.pointer none] w fun e w' => e = .returned (.int .i64 0) ∧ w = w' := by
  go_enter Try.func19, Try.ntmps19
  go_wp2
  go_ret
  exact ⟨rfl, rfl⟩
theorem croom_any (w : World) (h : CnAt w K σ) : Calls Try.prog 19 #[.pointer (some ⟨K.c, 0, none⟩)] w fun e w' => e = .returned (.int .i64 ((K.size - σ.out.length : Nat) : Int)) ∧ Below w.heap.size w w' := by
  have k := h.cells.1
  have C := Lib.hid (obroom_any _ _ _ _ w h.b)
  obtain ⟨r, hr⟩ : ∃ r : Nat, r = K.size - σ.out.length := ⟨_, rfl⟩
  rw [← hr] at C ⊢
  clear h hr
  go_enter Try.func19, Try.ntmps19
  go_wp2_with (go_at_call 32; ((with_reducible refine C.out.mono ?_); rintro e w1 ⟨rfl, b1⟩; have B1 := Lib.hid b1; clear b1))
  go_ret
  exact ⟨rfl, B1.out⟩
theorem cdrain_nil (n : Int) (w : World) : Calls Try.prog 14 #[.pointer none, .int .i64 n] w fun e w' => e = .returned (.slice none 0 0) ∧ w = w' := by
  go_enter Try.func14, Try.ntmps14
  go_wp2_with (go_at_call 17; ((with_reducible refine (cisopen_nil _).mono ?_); rintro e w1 ⟨rfl, rfl⟩))
  go_ret
  exact ⟨rfl, rfl⟩
theorem cdrain_no (n : Int) (w : World) (h : CnAt w K σ) (ho : σ.op = false) : Calls Try.prog 14 #[.pointer (some ⟨K.c, 0, none⟩), .int .i64 n] w fun e w' => e = .returned (.slice none 0 0) ∧ w = w' := by
  have C := Lib.hid (cisopen_any w h)
  rw [ho] at C
  clear h ho
  go_enter Try.func14, Try.ntmps14
  go_wp2_with (go_at_call 17; ((with_reducible refine C.out.mono ?_); rintro e w1 ⟨rfl, rfl⟩))
  go_ret
  exact ⟨rfl, rfl⟩
/-- what a drain leaves. -/
def Drained (w : World) (K : CnN) (σ : CnS) (m : Nat) (e : Ending) (w' : World) : Prop :=
  ∃ s, e = .returned (.slice (some ⟨s, 0, none⟩) m m) ∧ Blk w' s 5 (obbyC (σ.out.take m)) ∧ CnAt w' K ⟨σ.z, σ.err, σ.out.drop m, σ.op⟩ ∧ Fr K.F w w' ∧ w.heap.size ≤ s
theorem cdrain_yes (n : Int) (m : Nat) (w : World) (h : CnAt w K σ) (ho : σ.op = true) (hm : (m : Int) = max 0 (min n (σ.out.length : Int))) : Calls Try.prog 14 #[.pointer (some ⟨K.c, 0, none⟩), .int .i64 n] w (Drained w K σ m) := by
  have k := h.cells.1
  have C := Lib.hid (cisopen_any w h)
  rw [ho] at C
  have CT := Lib.hid (obtake_any K.ob K.og K.size σ.out n m w h.b hm)
  have H := Lib.hid h
  clear h hm
  go_enter Try.func14, Try.ntmps14
  go_wp2_with (first
    | (go_at_call 17; ((with_reducible refine C.out.mono ?_); rintro e w1 ⟨rfl, rfl⟩))
    | (go_at_call 29; ((with_reducible refine CT.out.mono ?_); rintro e w2 ⟨s, rfl, t1, t2, t3, t4, t5, t6⟩; have T := Lib.hid (And.intro t1 (And.intro t2 (And.intro t3 t4))); clear t1 t2 t3 t4 t5 t6)))
  go_ret
  obtain ⟨t1, t2, t3, t4⟩ := T.out
  exact ⟨s, rfl, t1, ⟨H.out.d.fr t3 (fun e => by have := H.out.ne; omega), t2, H.out.ne⟩, t3.mono (fun k hk => Or.inr hk), t4⟩
theorem cshut_nil (w : World) : Calls Try.prog 16 #[.pointer none] w fun e w' => e = .returned (.bool false) ∧ w = w' := by
  go_enter Try.func16, Try.ntmps16
  go_wp2_with (go_at_call 17; ((with_reducible refine (cisopen_nil _).mono ?_); rintro e w1 ⟨rfl, rfl⟩))
  go_ret
  exact ⟨rfl, rfl⟩
theorem cshut_no (w : World) (h : CnAt w K σ) (ho : σ.op = false) : Calls Try.prog 16 #[.pointer (some ⟨K.c, 0, none⟩)] w fun e w' => e = .returned (.bool false) ∧ w = w' := by
  have C := Lib.hid (cisopen_any w h)
  rw [ho] at C
  clear h ho
  go_enter Try.func16, Try.ntmps16
  go_wp2_with (go_at_call 17; ((with_reducible refine C.out.mono ?_); rintro e w1 ⟨rfl, rfl⟩))
  go_ret
  exact ⟨rfl, rfl⟩
theorem cshut_yes (w : World) (h : CnAt w K σ) (ho : σ.op = true) : Calls Try.prog 16 #[.pointer (some ⟨K.c, 0, none⟩)] w fun e w' => e = .returned (.bool true) ∧ CnAt w' K ⟨σ.z, σ.err, [], false⟩ ∧ Fr K.F w w' := by
  have k := h.cells.1
  have C := Lib.hid (cisopen_any w h)
  rw [ho] at C
  have CT := Lib.hid (obclear_any K.ob K.og K.size σ.out w h.b)
  have H := Lib.hid h
  clear h
  go_enter Try.func16, Try.ntmps16
  go_upto_region 4 with (first
    | (go_at_call 17; ((with_reducible refine C.out.mono ?_); rintro e w1 ⟨rfl, rfl⟩))
    | (go_at_call 30; ((with_reducible refine CT.out.mono ?_); rintro e w2 ⟨rfl, t2, t3⟩; have T := Lib.hid (show CnAt w2 K ⟨σ.z, σ.err, [], σ.op⟩ ∧ Fr K.F w w2 from ⟨⟨H.out.d.fr t3 (fun e => by have := H.out.ne; omega), t2, H.out.ne⟩, t3.mono (fun k hk => Or.inr hk)⟩); clear t2 t3)))
  clear k
  have k3 := T.out.1.cells.2.2
  have k4 := T.out.1.d.free
  obtain ⟨w3, e3, a3, f3⟩ := T.out.1.setOp false
  have A3 := Lib.hid (And.intro a3 f3)
  clear a3 f3
  go_wp2
  go_ret
  exact ⟨rfl, A3.out.1, T.out.2.trans (A3.out.2.mono (fun k hk => Or.inl hk))⟩
theorem copen_nil (w : World) : Calls Try.prog 15 #[.pointer none] w fun e w' => e = .returned (.bool false) ∧ w = w' := by
  go_enter Try.func15, Try.ntmps15
  go_wp2
  go_ret
  exact ⟨rfl, rfl⟩
theorem copen_no (w : World) (h : CnAt w K σ) (ho : σ.op = true) : Calls Try.prog 15 #[.pointer (some ⟨K.c, 0, none⟩)] w fun e w' => e = .returned (.bool false) ∧ w = w' := by
  have k := h.cells.2.2
  rw [ho] at k
  clear h ho
  go_enter Try.func15, Try.ntmps15
  go_wp2
  go_ret
  exact ⟨rfl, rfl⟩
/-- cells laid over the head of a block. -/
theorem setCells_head {b : Nat} {T : TypeId} : ∀ (vs xs pre tl : List Value) (w : World), w.heap[b]? = some (.cells (pre ++ (xs ++ tl)).toArray T (0, 0)) → xs.length = vs.length → w.setCells b pre.length vs = setObj w b (.cells (pre ++ (vs ++ tl)).toArray T (0, 0))
  | [], xs, pre, tl, w, h, hl => by
    have : xs = [] := List.eq_nil_of_length_eq_zero hl
    subst this
    exact (setObj_same h).symm
  | v :: r, [], pre, tl, w, h, hl => by simp at hl
  | v :: r, x :: xs, pre, tl, w, h, hl => by
    rw [World.setCells, setCell_obj h]
    have e : (pre ++ (x :: xs ++ tl)).toArray.setIfInBounds pre.length v = ((pre ++ [v]) ++ (xs ++ tl)).toArray := by
      rw [List.setIfInBounds_toArray, List.set_append_right _ _ (Nat.le_refl _), Nat.sub_self]
      simp
    rw [e]
    have ih := setCells_head r xs (pre ++ [v]) tl (setObj w b (.cells ((pre ++ [v]) ++ (xs ++ tl)).toArray T (0, 0))) (setObj_at (lt_of_block h) _) (by simpa using hl)
    rw [List.length_append] at ih
    rw [show pre.length + 1 = pre.length + [v].length from rfl, ih, setObj_setObj]
    simp
theorem decC_len (bs : List Int) (n : Nat) (rules err : Int) (h : bs.length = 75) : (decC bs n rules err).toList.length = 78 := by rw [Array.length_toList]; exact decC_size _ _ _ _ h
theorem decX_over {w : World} {b : Nat} {T : TypeId} {bs bs' : List Int} {n n' : Nat} {r r' e e' : Int} {tl : List Value} (h : Blk w b T (decX bs n r e tl)) (hl : bs.length = 75) (hl' : bs'.length = 75) : w.setCells b 0 (decC bs' n' r' e').toList = setObj w b (.cells (decX bs' n' r' e' tl) T (0, 0)) := by
  rw [decX_eq] at h
  have := setCells_head (decC bs' n' r' e').toList (decC bs n r e).toList [] tl w h (by rw [decC_len _ _ _ _ hl, decC_len _ _ _ _ hl'])
  rw [decX_eq]
  exact this
theorem dec_zero (rules : Int) : DecIn zero75 [] rules := ⟨zero75_len, (fun z hz => by rw [zero75, List.mem_replicate] at hz; omega), rfl, clean_nil rules⟩
theorem copen_yes (w : World) (h : CnAt w K σ) (ho : σ.op = false) : Calls Try.prog 15 #[.pointer (some ⟨K.c, 0, none⟩)] w fun e w' => e = .returned (.bool true) ∧ CnAt w' K ⟨[], 0, σ.out, true⟩ ∧ Fr K.F w w' := by
  have k1 := h.cells.2.1
  have k2 := h.cells.2.2
  rw [ho] at k2
  have H := Lib.hid h
  have CN := Lib.hid (new_any K.rules w)
  clear h
  go_enter Try.func15, Try.ntmps15
  go_upto_region 4 with (first
    | (go_at_call 25; ((with_reducible refine CN.out.mono ?_); rintro e w1 ⟨rfl, b1⟩; have H1 := Lib.hid (H.out.keep b1); have B1 := Lib.hid b1; clear b1))
    | (refine wpList_store_mid (by rfl) 48 _ _ (by rfl) K.c 0 (decC zero75 0 K.rules 0) (by rfl) (by rfl) ?_ (by rw [decC_size _ _ _ _ zero75_len]; exact infoDec) (decC_one _ _ _ _) ?_))
  · obtain ⟨bs, h1, h2⟩ := H1.out.d
    intro j hj
    rw [decC_size _ _ _ _ zero75_len] at hj
    refine ⟨?_, by rw [Nat.zero_add]; exact h2.wr j⟩
    rw [Nat.zero_add, blk_cell h2, decX_eq, List.getElem?_toArray, List.getElem?_append_left (by rw [decC_len _ _ _ _ h1.len]; exact hj), List.getElem?_eq_getElem (by rw [decC_len _ _ _ _ h1.len]; exact hj)]
    rfl
  · obtain ⟨bs, h1, h2⟩ := H1.out.d
    rw [decX_over h2 h1.len zero75_len]
    have hf : Fr (fun k => k = K.c) w1 (setObj w1 K.c (.cells (decX zero75 0 K.rules 0 (cnT K σ.op)) 51 (0, 0))) := Fr.setObj (F := fun k => k = K.c) (Fr.refl _ _) rfl _
    have ha : CnAt (setObj w1 K.c (.cells (decX zero75 0 K.rules 0 (cnT K σ.op)) 51 (0, 0))) K ⟨[], 0, σ.out, σ.op⟩ := ⟨⟨zero75, dec_zero K.rules, setObj_at (lt_of_block h2) _⟩, H1.out.b.fr hf (fun e => H1.out.ne.1 e.symm) (fun e => H1.out.ne.2 e.symm), H1.out.ne⟩
    have F2 := Lib.hid (Fr.trans (Fr.of_below (F := fun k => k = K.c) B1.out) hf)
    have A2 := Lib.hid ha
    generalize setObj w1 K.c (.cells (decX zero75 0 K.rules 0 (cnT K σ.op)) 51 (0, 0)) = w2 at A2 F2 ⊢
    clear h1 h2 hf ha k1 k2
    have k3 := A2.out.cells.2.2
    have k4 := A2.out.d.free
    obtain ⟨w3, e3, a3, f3⟩ := A2.out.setOp true
    have A3 := Lib.hid (And.intro a3 f3)
    clear a3 f3
    go_wp2
    go_ret
    exact ⟨rfl, A3.out.1, (F2.out.trans A3.out.2).mono (fun k hk => Or.inl hk)⟩
end
theorem cnew_no (rules n : Int) (hn : n < 1 ∨ 65536 < n) (w : World) : Calls Try.prog 11 #[.int .i64 rules, .int .i64 n] w fun e w' => e = .returned (.pointer none) ∧ w = w' := by
  have C := Lib.hid (obnew_no n hn w)
  clear hn
  go_enter Try.func11, Try.ntmps11
  go_wp2_with (go_at_call 24; ((with_reducible refine C.out.mono ?_); rintro e w1 ⟨rfl, rfl⟩))
  go_ret
  exact ⟨rfl, rfl⟩
theorem conn_zero (w : World) : (zeroValue 51).run Try.prog w = .ok (.agg (decX zero75 0 0 0 [.pointer none, .int .i64 0, .bool false])) w := by kernel_rfl
set_option maxHeartbeats 4000000 in
set_option maxRecDepth 100000 in
theorem conn_fill (rules : Int) : Array.foldl (fun (cs : Array Value) (x : Value × Nat) => cs.setIfInBounds x.2 x.1) (decX zero75 0 0 0 [.pointer none, .int .i64 0, .bool false]) (decC zero75 0 rules 0).zipIdx 0 78 = decX zero75 0 rules 0 [.pointer none, .int .i64 0, .bool false] := by kernel_rfl
theorem decX_size (bs : List Int) (n : Nat) (rules err : Int) (tl : List Value) (h : bs.length = 75) : (decX bs n rules err tl).size = 78 + tl.length := by unfold decX; simp [h]; omega
set_option maxRecDepth 100000 in
set_option maxHeartbeats 1000000 in
theorem cnew_yes (rules : Int) (n : Nat) (h1 : 1 ≤ n) (h2 : n ≤ 65536) (w : World) : Calls Try.prog 11 #[.int .i64 rules, .int .i64 (n : Int)] w fun e w' => ∃ K : CnN, e = .returned (.pointer (some ⟨K.c, 0, none⟩)) ∧ K.size = n ∧ K.rules = rules ∧ CnAt w' K ⟨[], 0, [], false⟩ ∧ (∀ b, K.F b → w.heap.size ≤ b) ∧ Below w.heap.size w w' := by
  have C := Lib.hid (obnew_yes n h1 h2 w)
  have CN := fun wx => new_any rules wx
  have hz := conn_zero
  have hf := conn_fill rules
  have hs := decC_size zero75 0 rules 0 zero75_len
  obtain ⟨p, hp⟩ : ∃ p, p = w.heap.size + 1 := ⟨_, rfl⟩
  have e1 : (decX zero75 0 rules 0 [.pointer none, .int .i64 0, .bool false]).setIfInBounds 78 (.pointer (some ⟨p, 0, none⟩)) = decX zero75 0 rules 0 [.pointer (some ⟨p, 0, none⟩), .int .i64 0, .bool false] := decX_set zero75 0 rules 0 _ 0 _ zero75_len
  have e2 : (decX zero75 0 rules 0 [.pointer (some ⟨p, 0, none⟩), .int .i64 0, .bool false]).setIfInBounds 79 (.int .i64 rules) = decX zero75 0 rules 0 [.pointer (some ⟨p, 0, none⟩), .int .i64 rules, .bool false] := decX_set zero75 0 rules 0 _ 1 _ zero75_len
  have s0 := decX_size zero75 0 0 0 [.pointer none, .int .i64 0, .bool false] zero75_len
  have s1 := decX_size zero75 0 rules 0 [.pointer none, .int .i64 0, .bool false] zero75_len
  have s2 := decX_size zero75 0 rules 0 [.pointer (some ⟨p, 0, none⟩), .int .i64 0, .bool false] zero75_len
  simp only [List.length_cons, List.length_nil] at s0 s1 s2
  obtain ⟨D, hD⟩ : ∃ D, D = decC zero75 0 rules 0 := ⟨_, rfl⟩
  obtain ⟨Z, hZ⟩ : ∃ Z, Z = decX zero75 0 0 0 [.pointer none, .int .i64 0, .bool false] := ⟨_, rfl⟩
  obtain ⟨Y, hY⟩ : ∃ Y, Y = decX zero75 0 rules 0 [.pointer none, .int .i64 0, .bool false] := ⟨_, rfl⟩
  obtain ⟨Y2, hY2⟩ : ∃ Y, Y = decX zero75 0 rules 0 [.pointer (some ⟨p, 0, none⟩), .int .i64 0, .bool false] := ⟨_, rfl⟩
  obtain ⟨X, hX⟩ : ∃ X, X = decX zero75 0 rules 0 [.pointer (some ⟨p, 0, none⟩), .int .i64 rules, .bool false] := ⟨_, rfl⟩
  simp only [← hD] at CN
  rw [← hD] at hs
  rw [← hD, ← hZ, ← hY] at hf
  simp only [← hZ] at hz
  rw [← hZ] at s0
  rw [← hY] at s1
  rw [← hY2] at s2
  rw [← hY, ← hY2] at e1
  rw [← hY2, ← hX] at e2
  have CN := Lib.hid CN
  have HX := Lib.hid hX
  have HP := Lib.hid hp
  rw [← hp] at C
  clear h1 h2 hD hX hZ hY hY2 hp
  go_enter Try.func11, Try.ntmps11
  go_wp2_with (first
    | (go_at_call 24; ((with_reducible refine C.out.mono ?_); rintro e w1 ⟨rfl, s1, b1⟩; have S1 := Lib.hid (And.intro s1 b1); clear s1 b1))
    | (go_at_call 25; ((with_reducible refine (CN.out _).mono ?_); rintro e w2 ⟨rfl, b2⟩; have B2 := Lib.hid b2; clear b2)))
  go_ret
  have hl := S1.out.1.lt
  have hb := S1.out.2.size
  have hb2 := B2.out.size
  have hpe := HP.out
  have bl : Below w.heap.size w (w2.alloc (.cells X 51)) := (S1.out.2.trans (B2.out.mono hb)).alloc (by omega) _
  refine ⟨⟨w2.heap.size, p, w.heap.size, n, rules⟩, rfl, rfl, rfl, ⟨⟨zero75, dec_zero rules, ?_⟩, (S1.out.1.keep B2.out).keep ((Below.refl _ _).alloc (Nat.le_refl _) _), by show w2.heap.size ≠ p ∧ w2.heap.size ≠ w.heap.size; omega⟩, ?_, bl⟩
  · show Blk _ _ _ (decX zero75 0 rules 0 [.pointer (some ⟨p, 0, none⟩), .int .i64 rules, .bool false])
    rw [← HX.out]; exact heap_alloc_new w2 _
  · rintro b (h | h | h)
    · have h : b = w2.heap.size := h
      omega
    · have h : b = p := h
      omega
    · have h : b = w.heap.size := h
      omega
end Go.Proofs.Ytaghookljjpllaa
