import Derived.Test.YtannniobeanhlaaGreatDcA
import Derived.Deep.WholeRow
import Derived.Deep.MidRow
import Derived.Test.YtannniobeanhlaaGreatZBo
import Derived.Test.YtannniobeanhlaaGreatZFrN
import Derived.Test.YtannniobeanhlaaGreatSvA
import Derived.Test.YtannniobeanhlaaGreatZObj
import Derived.Test.YtannniobeanhlaaGreatZPhase
/- The contracts of layer 14 (decode): New, Feed behind a fault. -/
namespace Go.Proofs.YtannniobeanhlaaGreat
set_option linter.unusedSimpArgs false
set_option linter.unusedVariables false
set_option maxRecDepth 100000
open Go.ChangeShapes Go.WideShapes Go.ChangeAt Go.RowKit
def zero75 : List Int := List.replicate 75 0
theorem zero_dec (w : World) : (zeroValue 130).run Tryz.prog w = .ok (.agg (decC zero75 0 0 0)) w := by kernel_rfl
theorem decC_size (bs : List Int) (n : Nat) (rules err : Int) (h : bs.length = 75) : (decC bs n rules err).size = 78 := by unfold decC; simp [h]
theorem zero75_len : zero75.length = 75 := rfl
theorem decC_rules (bs : List Int) (n : Nat) (rules r err : Int) (h : bs.length = 75) : (decC bs n rules err).setIfInBounds 76 (.int .i64 r) = decC bs n r err := by
  unfold decC
  have hl : (bs.map (Value.int .u8)).length = 75 := by rw [List.length_map, h]
  rw [List.setIfInBounds_toArray, List.set_append_right _ _ (by omega), hl]; rfl
theorem decC_one (bs : List Int) (n : Nat) (rules err : Int) : (decC bs n rules err).all (·.oneCell') = true := by
  unfold decC
  rw [List.all_toArray, List.all_append, Bool.and_eq_true]
  refine ⟨?_, rfl⟩
  rw [List.all_eq_true]
  intro x hx
  obtain ⟨z, _, rfl⟩ := List.mem_map.1 hx
  rfl
theorem infoDec : (Tryz.prog.info? 130).map (·.size) = some 78 := by kernel_rfl
theorem store_dec (w : World) (bs bs' : List Int) (n n' : Nat) (r r' e e' : Int) (h : bs.length = 75) (h' : bs'.length = 75) :
    (storeCells ⟨w.heap.size, 0, none⟩ (decC bs' n' r' e').toList 0).run Tryz.prog (w.alloc (.cells (decC bs n r e) 130)) = .ok () (w.alloc (.cells (decC bs' n' r' e') 130)) :=
  run_storeCells_new w _ _ _ (by rw [decC_size _ _ _ _ h']; exact infoDec) (by rw [decC_size _ _ _ _ h, decC_size _ _ _ _ h']) (decC_one _ _ _ _)
set_option maxRecDepth 100000 in
theorem new_anyC (rules : Int) (w : World) : Calls Tryz.prog 64 #[.int .i64 rules] w fun e w' => e = .returned (.agg (decC zero75 0 rules 0)) ∧ Below w.heap.size w w' := by
  have hz := zero_dec
  have hs1 := decC_size zero75 0 0 0 zero75_len
  have hs2 := decC_size zero75 0 rules 0 zero75_len
  have hr1 := decC_rules zero75 0 0 rules 0 zero75_len
  have hr2 : (decC zero75 0 0 0).toList.set 76 (.int .i64 rules) = (decC zero75 0 rules 0).toList := by rw [← hr1]; simp
  have hst := store_dec w zero75 zero75 0 0 0 rules 0 0 zero75_len zero75_len
  go_enter Tryz.func64, Tryz.ntmps64
  go_wp2
  refine bodyPost_ret (results_cell_row rfl _ _ w.heap.size _ _ (0, 0) _ rfl (heap_alloc_new w _) Tryz.underlying130 rfl (by rw [hs2]; exact infoDec)) rfl ⟨rfl, (Below.refl _ _).alloc (Nat.le_refl _) _⟩
/-- a copy of a decoder. -/
theorem DecAt.copy {w : World} {b : Nat} {z : List Int} {rules err : Int} (h : DecAt w b z rules err) : ∃ bs, bs.length = 75 ∧ Blk w b 130 (decC bs z.length rules err) ∧ ∀ w' b', Blk w' b' 130 (decC bs z.length rules err) → DecAt w' b' z rules err := by
  obtain ⟨bs, h1, h2⟩ := h
  exact ⟨bs, h1.len, h2, fun w' b' h' => ⟨bs, h1, h'⟩⟩
end Go.Proofs.YtannniobeanhlaaGreat
/- The contracts of layer 14 at a decoder that is the head of a greater struct. -/
namespace Go.Proofs.YtannniobeanhlaaGreat
set_option linter.unusedSimpArgs false
set_option linter.unusedVariables false
set_option maxRecDepth 100000
open Go.ChangeShapes Go.WideShapes Go.ChangeAt Go.RowKit
/-- the cells of a struct that begins with a decoder. -/
def decX (bs : List Int) (n : Nat) (rules err : Int) (tl : List Value) : Array Value := (bs.map (Value.int .u8) ++ ([Value.int .i64 (n : Int), Value.int .i64 rules, Value.int .i64 err] ++ tl)).toArray
theorem decX_eq (bs : List Int) (n : Nat) (rules err : Int) (tl : List Value) : decX bs n rules err tl = ((decC bs n rules err).toList ++ tl).toArray := by unfold decX decC; simp
theorem decX_tl (bs : List Int) (n : Nat) (rules err : Int) (tl : List Value) (h : bs.length = 75) (i : Nat) : (decX bs n rules err tl)[78 + i]? = tl[i]? := by
  unfold decX
  have hl : (bs.map (Value.int .u8)).length = 75 := by rw [List.length_map, h]
  rw [List.getElem?_toArray, List.getElem?_append_right (by omega), hl, show 78 + i - 75 = i + 3 by omega, List.getElem?_append_right (by simp)]
  rfl
theorem decX_set (bs : List Int) (n : Nat) (rules err : Int) (tl : List Value) (i : Nat) (v : Value) (h : bs.length = 75) : (decX bs n rules err tl).setIfInBounds (78 + i) v = decX bs n rules err (tl.set i v) := by
  unfold decX
  have hl : (bs.map (Value.int .u8)).length = 75 := by rw [List.length_map, h]
  rw [List.setIfInBounds_toArray, List.set_append_right _ _ (by omega), hl, show 78 + i - 75 = i + 3 by omega]; rfl
def DecX (T : TypeId) (tl : List Value) (w : World) (b : Nat) (z : List Int) (rules err : Int) : Prop := ∃ bs, DecIn bs z rules ∧ Blk w b T (decX bs z.length rules err tl)
section
variable {w w' : World} {T : TypeId} {tl : List Value} {b : Nat} {z : List Int} {rules err : Int}
theorem DecX.keep (h : DecX T tl w b z rules err) (hb : Below w.heap.size w w') : DecX T tl w' b z rules err := by
  obtain ⟨bs, h1, h2⟩ := h
  exact ⟨bs, h1, h2.keep hb⟩
theorem DecX.fr {F : Nat → Prop} (h : DecX T tl w b z rules err) (hf : Fr F w w') (hF : ¬ F b) : DecX T tl w' b z rules err := by
  obtain ⟨bs, h1, h2⟩ := h
  exact ⟨bs, h1, h2.fr hf hF⟩
theorem DecX.lt (h : DecX T tl w b z rules err) : b < w.heap.size := by
  obtain ⟨bs, h1, h2⟩ := h
  exact lt_of_block h2
theorem DecX.cell (h : DecX T tl w b z rules err) (i : Nat) : w.cell? ⟨b, 78 + i, none⟩ = tl[i]? := by
  obtain ⟨bs, h1, h2⟩ := h
  rw [blk_cell h2]; exact decX_tl _ _ _ _ _ h1.len i
theorem DecX.free (h : DecX T tl w b z rules err) (i : Nat) : w.frozen? ⟨b, i, none⟩ = false := by
  obtain ⟨bs, h1, h2⟩ := h
  exact h2.wr i
theorem DecX.set (h : DecX T tl w b z rules err) (i : Nat) (v : Value) : ∃ w', w.setCell ⟨b, 78 + i, none⟩ v = w' ∧ DecX T (tl.set i v) w' b z rules err ∧ Fr (fun k => k = b) w w' ∧ w'.heap.size = w.heap.size := by
  obtain ⟨bs, h1, h2⟩ := h
  obtain ⟨w2, e, r, f, s⟩ := G.box_set h2 (78 + i) v _ (decX_set _ _ _ _ _ _ _ h1.len)
  exact ⟨w2, e, ⟨bs, h1, r⟩, f, s⟩
/-- the decoder alone, as a copy has it. -/
theorem DecX.copy (h : DecX T tl w b z rules err) : ∃ bs, bs.length = 75 ∧ Blk w b T (decX bs z.length rules err tl) ∧ ∀ w' b', Blk w' b' 130 (decC bs z.length rules err) → DecAt w' b' z rules err := by
  obtain ⟨bs, h1, h2⟩ := h
  exact ⟨bs, h1.len, h2, fun w' b' h' => ⟨bs, h1, h'⟩⟩
end
end Go.Proofs.YtannniobeanhlaaGreat
/- The contracts of layer 16 (conn): New, Open, Shut, IsOpen, Drain, Waits, Room. -/
namespace Go.Proofs.YtannniobeanhlaaGreat
set_option linter.unusedSimpArgs false
set_option linter.unusedVariables false
set_option maxRecDepth 100000
open Go.ChangeShapes Go.WideShapes Go.ChangeAt Go.RowKit
/-- where a connection lies. -/
structure CnN where
  c : Nat
  ob : Nat
  og : Nat
  size : Nat
  rules : Int
/-- what it has. -/
structure CnS where
  z : List Int
  err : Int
  out : List Int
  op : Bool
abbrev cnT (K : CnN) (op : Bool) : List Value := [.pointer (some ⟨K.ob, 0, none⟩), .int .i64 K.rules, .bool op]
structure CnAt (w : World) (K : CnN) (σ : CnS) : Prop where
  d : DecX 133 (cnT K σ.op) w K.c σ.z K.rules σ.err
  b : BufAt w K.ob K.og K.size σ.out
  ne : K.c ≠ K.ob ∧ K.c ≠ K.og
def CnN.F (K : CnN) (b : Nat) : Prop := b = K.c ∨ b = K.ob ∨ b = K.og
section
variable {w w' : World} {K : CnN} {σ : CnS}
theorem CnAt.fr {F : Nat → Prop} (h : CnAt w K σ) (hf : Fr F w w') (hF : ∀ b, K.F b → ¬ F b) : CnAt w' K σ :=
  ⟨h.d.fr hf (hF _ (Or.inl rfl)), h.b.fr hf (hF _ (Or.inr (Or.inl rfl))) (hF _ (Or.inr (Or.inr rfl))), h.ne⟩
theorem CnAt.keep (h : CnAt w K σ) (hb : Below w.heap.size w w') : CnAt w' K σ := h.fr (F := fun _ => False) (Fr.of_below hb) (fun _ _ => id)
theorem CnAt.lt (h : CnAt w K σ) : ∀ b, K.F b → b < w.heap.size := by
  rintro b (rfl | rfl | rfl)
  · exact h.d.lt
  · exact h.b.lt.1
  · exact h.b.lt.2
theorem CnAt.cells (h : CnAt w K σ) : w.cell? ⟨K.c, 78, none⟩ = some (.pointer (some ⟨K.ob, 0, none⟩)) ∧ w.cell? ⟨K.c, 79, none⟩ = some (.int .i64 K.rules) ∧ w.cell? ⟨K.c, 80, none⟩ = some (.bool σ.op) :=
  ⟨h.d.cell 0, h.d.cell 1, h.d.cell 2⟩
theorem CnAt.setOp (h : CnAt w K σ) (v : Bool) : ∃ w', w.setCell ⟨K.c, 80, none⟩ (.bool v) = w' ∧ CnAt w' K ⟨σ.z, σ.err, σ.out, v⟩ ∧ Fr (fun k => k = K.c) w w' := by
  obtain ⟨w2, e, d, f, s⟩ := h.d.set 2 (.bool v)
  exact ⟨w2, e, ⟨d, h.b.fr f (fun e => h.ne.1 e.symm) (fun e => h.ne.2 e.symm), h.ne⟩, f⟩
theorem cisopen_any (w : World) (h : CnAt w K σ) : Calls Tryz.prog 24 #[.pointer (some ⟨K.c, 0, none⟩)] w fun e w' => e = .returned (.bool σ.op) ∧ w = w' := by
  have k := h.cells.2.2
  clear h
  go_enter Tryz.func24, Tryz.ntmps24
  go_wp2
  go_ret
  exact ⟨rfl, rfl⟩
theorem cshut_no (w : World) (h : CnAt w K σ) (ho : σ.op = false) : Calls Tryz.prog 75 #[.pointer (some ⟨K.c, 0, none⟩)] w fun e w' => e = .returned (.bool false) ∧ w = w' := by
  have C := Lib.hid (cisopen_any w h)
  rw [ho] at C
  clear h ho
  go_enter Tryz.func75, Tryz.ntmps75
  go_wp2_with (go_at_call 24; ((with_reducible refine C.out.mono ?_); rintro e w1 ⟨rfl, rfl⟩))
  go_ret
  exact ⟨rfl, rfl⟩
theorem cshut_yes (w : World) (h : CnAt w K σ) (ho : σ.op = true) : Calls Tryz.prog 75 #[.pointer (some ⟨K.c, 0, none⟩)] w fun e w' => e = .returned (.bool true) ∧ CnAt w' K ⟨σ.z, σ.err, [], false⟩ ∧ Fr K.F w w' := by
  have k := h.cells.1
  have C := Lib.hid (cisopen_any w h)
  rw [ho] at C
  have CT := Lib.hid (obclear_any K.ob K.og K.size σ.out w h.b)
  have H := Lib.hid h
  clear h
  go_enter Tryz.func75, Tryz.ntmps75
  go_upto_region 4 with (first
    | (go_at_call 24; ((with_reducible refine C.out.mono ?_); rintro e w1 ⟨rfl, rfl⟩))
    | (go_at_call 99; ((with_reducible refine CT.out.mono ?_); rintro e w2 ⟨rfl, t2, t3⟩; have T := Lib.hid (show CnAt w2 K ⟨σ.z, σ.err, [], σ.op⟩ ∧ Fr K.F w w2 from ⟨⟨H.out.d.fr t3 (fun e => by have := H.out.ne; omega), t2, H.out.ne⟩, t3.mono (fun k hk => Or.inr hk)⟩); clear t2 t3)))
  clear k
  have k3 := T.out.1.cells.2.2
  have k4 := T.out.1.d.free
  obtain ⟨w3, e3, a3, f3⟩ := T.out.1.setOp false
  have A3 := Lib.hid (And.intro a3 f3)
  clear a3 f3
  go_wp2
  go_ret
  exact ⟨rfl, A3.out.1, T.out.2.trans (A3.out.2.mono (fun k hk => Or.inl hk))⟩
theorem copen_no (w : World) (h : CnAt w K σ) (ho : σ.op = true) : Calls Tryz.prog 74 #[.pointer (some ⟨K.c, 0, none⟩)] w fun e w' => e = .returned (.bool false) ∧ w = w' := by
  have k := h.cells.2.2
  rw [ho] at k
  clear h ho
  go_enter Tryz.func74, Tryz.ntmps74
  go_wp2
  go_ret
  exact ⟨rfl, rfl⟩
/-- cells laid over the head of a block. -/
theorem setCells_head {b : Nat} {T : TypeId} : ∀ (vs xs pre tl : List Value) (w : World), w.heap[b]? = some (.cells (pre ++ (xs ++ tl)).toArray T (0, 0)) → xs.length = vs.length → w.setCells b pre.length vs = setObj w b (.cells (pre ++ (vs ++ tl)).toArray T (0, 0))
  | [], xs, pre, tl, w, h, hl => by
    have : xs = [] := List.eq_nil_of_length_eq_zero hl
    subst this
    exact (setObj_same h).symm
  | v :: r, [], pre, tl, w, h, hl => by simp at hl
  | v :: r, x :: xs, pre, tl, w, h, hl => by
    rw [World.setCells, setCell_obj h]
    have e : (pre ++ (x :: xs ++ tl)).toArray.setIfInBounds pre.length v = ((pre ++ [v]) ++ (xs ++ tl)).toArray := by
      rw [List.setIfInBounds_toArray, List.set_append_right _ _ (Nat.le_refl _), Nat.sub_self]
      simp
    rw [e]
    have ih := setCells_head r xs (pre ++ [v]) tl (setObj w b (.cells ((pre ++ [v]) ++ (xs ++ tl)).toArray T (0, 0))) (setObj_at (lt_of_block h) _) (by simpa using hl)
    rw [List.length_append] at ih
    rw [show pre.length + 1 = pre.length + [v].length from rfl, ih, setObj_setObj]
    simp
theorem decC_len (bs : List Int) (n : Nat) (rules err : Int) (h : bs.length = 75) : (decC bs n rules err).toList.length = 78 := by rw [Array.length_toList]; exact decC_size _ _ _ _ h
theorem decX_over {w : World} {b : Nat} {T : TypeId} {bs bs' : List Int} {n n' : Nat} {r r' e e' : Int} {tl : List Value} (h : Blk w b T (decX bs n r e tl)) (hl : bs.length = 75) (hl' : bs'.length = 75) : w.setCells b 0 (decC bs' n' r' e').toList = setObj w b (.cells (decX bs' n' r' e' tl) T (0, 0)) := by
  rw [decX_eq] at h
  have := setCells_head (decC bs' n' r' e').toList (decC bs n r e).toList [] tl w h (by rw [decC_len _ _ _ _ hl, decC_len _ _ _ _ hl'])
  rw [decX_eq]
  exact this
theorem dec_zero (rules : Int) : DecIn zero75 [] rules := ⟨zero75_len, (fun z hz => by rw [zero75, List.mem_replicate] at hz; omega), rfl, clean_nil rules⟩
theorem copen_yes (w : World) (h : CnAt w K σ) (ho : σ.op = false) : Calls Tryz.prog 74 #[.pointer (some ⟨K.c, 0, none⟩)] w fun e w' => e = .returned (.bool true) ∧ CnAt w' K ⟨[], 0, σ.out, true⟩ ∧ Fr K.F w w' := by
  have k1 := h.cells.2.1
  have k2 := h.cells.2.2
  rw [ho] at k2
  have H := Lib.hid h
  have CN := Lib.hid (new_anyC K.rules w)
  clear h
  go_enter Tryz.func74, Tryz.ntmps74
  go_upto_region 4 with (first
    | (go_at_call 64; ((with_reducible refine CN.out.mono ?_); rintro e w1 ⟨rfl, b1⟩; have H1 := Lib.hid (H.out.keep b1); have B1 := Lib.hid b1; clear b1))
    | (refine wpList_store_mid (by rfl) 130 _ _ (by rfl) K.c 0 (decC zero75 0 K.rules 0) (by rfl) (by rfl) ?_ (by rw [decC_size _ _ _ _ zero75_len]; exact infoDec) (decC_one _ _ _ _) ?_))
  · obtain ⟨bs, h1, h2⟩ := H1.out.d
    intro j hj
    rw [decC_size _ _ _ _ zero75_len] at hj
    refine ⟨?_, by rw [Nat.zero_add]; exact h2.wr j⟩
    rw [Nat.zero_add, blk_cell h2, decX_eq, List.getElem?_toArray, List.getElem?_append_left (by rw [decC_len _ _ _ _ h1.len]; exact hj), List.getElem?_eq_getElem (by rw [decC_len _ _ _ _ h1.len]; exact hj)]
    rfl
  · obtain ⟨bs, h1, h2⟩ := H1.out.d
    rw [decX_over h2 h1.len zero75_len]
    have hf : Fr (fun k => k = K.c) w1 (setObj w1 K.c (.cells (decX zero75 0 K.rules 0 (cnT K σ.op)) 133 (0, 0))) := Fr.setObj (F := fun k => k = K.c) (Fr.refl _ _) rfl _
    have ha : CnAt (setObj w1 K.c (.cells (decX zero75 0 K.rules 0 (cnT K σ.op)) 133 (0, 0))) K ⟨[], 0, σ.out, σ.op⟩ := ⟨⟨zero75, dec_zero K.rules, setObj_at (lt_of_block h2) _⟩, H1.out.b.fr hf (fun e => H1.out.ne.1 e.symm) (fun e => H1.out.ne.2 e.symm), H1.out.ne⟩
    have F2 := Lib.hid (Fr.trans (Fr.of_below (F := fun k => k = K.c) B1.out) hf)
    have A2 := Lib.hid ha
    generalize setObj w1 K.c (.cells (decX zero75 0 K.rules 0 (cnT K σ.op)) 133 (0, 0)) = w2 at A2 F2 ⊢
    clear h1 h2 hf ha k1 k2
    have k3 := A2.out.cells.2.2
    have k4 := A2.out.d.free
    obtain ⟨w3, e3, a3, f3⟩ := A2.out.setOp true
    have A3 := Lib.hid (And.intro a3 f3)
    clear a3 f3
    go_wp2
    go_ret
    exact ⟨rfl, A3.out.1, (F2.out.trans A3.out.2).mono (fun k hk => Or.inl hk)⟩
end
theorem conn_zero (w : World) : (zeroValue 133).run Tryz.prog w = .ok (.agg (decX zero75 0 0 0 [.pointer none, .int .i64 0, .bool false])) w := by kernel_rfl
set_option maxHeartbeats 4000000 in
set_option maxRecDepth 100000 in
theorem conn_fill (rules : Int) : Array.foldl (fun (cs : Array Value) (x : Value × Nat) => cs.setIfInBounds x.2 x.1) (decX zero75 0 0 0 [.pointer none, .int .i64 0, .bool false]) (decC zero75 0 rules 0).zipIdx 0 78 = decX zero75 0 rules 0 [.pointer none, .int .i64 0, .bool false] := by kernel_rfl
theorem decX_size (bs : List Int) (n : Nat) (rules err : Int) (tl : List Value) (h : bs.length = 75) : (decX bs n rules err tl).size = 78 + tl.length := by unfold decX; simp [h]; omega
set_option maxRecDepth 100000 in
set_option maxHeartbeats 1000000 in
theorem cnew_yes (rules : Int) (n : Nat) (h1 : 1 ≤ n) (h2 : n ≤ 65536) (w : World) : Calls Tryz.prog 36 #[.int .i64 rules, .int .i64 (n : Int)] w fun e w' => ∃ K : CnN, e = .returned (.pointer (some ⟨K.c, 0, none⟩)) ∧ K.size = n ∧ K.rules = rules ∧ CnAt w' K ⟨[], 0, [], false⟩ ∧ (∀ b, K.F b → w.heap.size ≤ b) ∧ Below w.heap.size w w' := by
  have C := Lib.hid (obnew_yes n h1 h2 w)
  have CN := fun wx => new_anyC rules wx
  have hz := conn_zero
  have hf := conn_fill rules
  have hs := decC_size zero75 0 rules 0 zero75_len
  obtain ⟨p, hp⟩ : ∃ p, p = w.heap.size + 1 := ⟨_, rfl⟩
  have e1 : (decX zero75 0 rules 0 [.pointer none, .int .i64 0, .bool false]).setIfInBounds 78 (.pointer (some ⟨p, 0, none⟩)) = decX zero75 0 rules 0 [.pointer (some ⟨p, 0, none⟩), .int .i64 0, .bool false] := decX_set zero75 0 rules 0 _ 0 _ zero75_len
  have e2 : (decX zero75 0 rules 0 [.pointer (some ⟨p, 0, none⟩), .int .i64 0, .bool false]).setIfInBounds 79 (.int .i64 rules) = decX zero75 0 rules 0 [.pointer (some ⟨p, 0, none⟩), .int .i64 rules, .bool false] := decX_set zero75 0 rules 0 _ 1 _ zero75_len
  have s0 := decX_size zero75 0 0 0 [.pointer none, .int .i64 0, .bool false] zero75_len
  have s1 := decX_size zero75 0 rules 0 [.pointer none, .int .i64 0, .bool false] zero75_len
  have s2 := decX_size zero75 0 rules 0 [.pointer (some ⟨p, 0, none⟩), .int .i64 0, .bool false] zero75_len
  simp only [List.length_cons, List.length_nil] at s0 s1 s2
  obtain ⟨D, hD⟩ : ∃ D, D = decC zero75 0 rules 0 := ⟨_, rfl⟩
  obtain ⟨Z, hZ⟩ : ∃ Z, Z = decX zero75 0 0 0 [.pointer none, .int .i64 0, .bool false] := ⟨_, rfl⟩
  obtain ⟨Y, hY⟩ : ∃ Y, Y = decX zero75 0 rules 0 [.pointer none, .int .i64 0, .bool false] := ⟨_, rfl⟩
  obtain ⟨Y2, hY2⟩ : ∃ Y, Y = decX zero75 0 rules 0 [.pointer (some ⟨p, 0, none⟩), .int .i64 0, .bool false] := ⟨_, rfl⟩
  obtain ⟨X, hX⟩ : ∃ X, X = decX zero75 0 rules 0 [.pointer (some ⟨p, 0, none⟩), .int .i64 rules, .bool false] := ⟨_, rfl⟩
  simp only [← hD] at CN
  rw [← hD] at hs
  rw [← hD, ← hZ, ← hY] at hf
  simp only [← hZ] at hz
  rw [← hZ] at s0
  rw [← hY] at s1
  rw [← hY2] at s2
  rw [← hY, ← hY2] at e1
  rw [← hY2, ← hX] at e2
  have CN := Lib.hid CN
  have HX := Lib.hid hX
  have HP := Lib.hid hp
  rw [← hp] at C
  clear h1 h2 hD hX hZ hY hY2 hp
  go_enter Tryz.func36, Tryz.ntmps36
  go_wp2_with (first
    | (go_at_call 63; ((with_reducible refine C.out.mono ?_); rintro e w1 ⟨rfl, s1, b1⟩; have S1 := Lib.hid (And.intro s1 b1); clear s1 b1))
    | (go_at_call 64; ((with_reducible refine (CN.out _).mono ?_); rintro e w2 ⟨rfl, b2⟩; have B2 := Lib.hid b2; clear b2)))
  go_ret
  have hl := S1.out.1.lt
  have hb := S1.out.2.size
  have hb2 := B2.out.size
  have hpe := HP.out
  have bl : Below w.heap.size w (w2.alloc (.cells X 133)) := (S1.out.2.trans (B2.out.mono hb)).alloc (by omega) _
  refine ⟨⟨w2.heap.size, p, w.heap.size, n, rules⟩, rfl, rfl, rfl, ⟨⟨zero75, dec_zero rules, ?_⟩, (S1.out.1.keep B2.out).keep ((Below.refl _ _).alloc (Nat.le_refl _) _), by show w2.heap.size ≠ p ∧ w2.heap.size ≠ w.heap.size; omega⟩, ?_, bl⟩
  · show Blk _ _ _ (decX zero75 0 rules 0 [.pointer (some ⟨p, 0, none⟩), .int .i64 rules, .bool false])
    rw [← HX.out]; exact heap_alloc_new w2 _
  · rintro b (h | h | h)
    · have h : b = w2.heap.size := h
      omega
    · have h : b = p := h
      omega
    · have h : b = w.heap.size := h
      omega
end Go.Proofs.YtannniobeanhlaaGreat
/- The contracts of layer 18 (server): Conn, Rule, forget, unless; acts that no bytes come of. -/
namespace Go.Proofs.YtannniobeanhlaaGreat
set_option linter.unusedSimpArgs false
set_option linter.unusedVariables false
set_option maxRecDepth 100000
open Go.ChangeShapes Go.WideShapes Go.ChangeAt Go.RowKit
section
variable {w w' W : World} {s : Nat} {c c' : SvC} {K : CnN} {σ : CnS}
theorem svconn_in {i : Nat} (hi : i < 16) {p : Option Addr} (hv : c.K[i]? = some (.pointer p)) (w : World) (h : Sv w s c) :
    Calls Tryz.prog 23 #[.pointer (some ⟨s, 0, none⟩), .int .i64 (i : Int)] w fun e w' => e = .returned (.pointer p) ∧ w = w' := by
  have k0 := (h.cK hi).trans hv
  have t1 : decide ((i : Int) < 0) = false := by rw [decide_eq_false_iff_not]; omega
  have t2 : decide ((16 : Int) ≤ (i : Int)) = false := by rw [decide_eq_false_iff_not]; omega
  have t3 : ¬ (i : Int) < 0 := by omega
  have t4 : (i : Int) < 16 := by omega
  clear h hv
  go_enter Tryz.func23, Tryz.ntmps23
  go_wp2
  go_ret
  exact ⟨rfl, rfl⟩
theorem svconn_out {i : Int} (hi : i < 0 ∨ 16 ≤ i) (w : World) :
    Calls Tryz.prog 23 #[.pointer (some ⟨s, 0, none⟩), .int .i64 i] w fun e w' => e = .returned (.pointer none) ∧ w = w' := by
  by_cases h1 : i < 0
  · have t1 : decide (i < 0) = true := by rw [decide_eq_true_iff]; exact h1
    clear hi h1
    go_enter Tryz.func23, Tryz.ntmps23
    go_wp2
    go_ret
    exact ⟨rfl, rfl⟩
  · have t1 : decide (i < 0) = false := by rw [decide_eq_false_iff_not]; exact h1
    have t2 : decide ((16 : Int) ≤ i) = true := by rw [decide_eq_true_iff]; omega
    clear hi h1
    go_enter Tryz.func23, Tryz.ntmps23
    go_wp2
    go_ret
    exact ⟨rfl, rfl⟩
theorem svconn_nil (i : Int) (w : World) :
    Calls Tryz.prog 23 #[.pointer none, .int .i64 i] w fun e w' => e = .returned (.pointer none) ∧ w = w' := by
  go_enter Tryz.func23, Tryz.ntmps23
  go_wp2
  go_ret
  exact ⟨rfl, rfl⟩
theorem svrule_in {i : Nat} (hi : i < 8) {p : Option Addr} (hv : c.J[i]? = some (.pointer p)) (w : World) (h : Sv w s c) :
    Calls Tryz.prog 26 #[.pointer (some ⟨s, 0, none⟩), .int .i64 (i : Int)] w fun e w' => e = .returned (.pointer p) ∧ w = w' := by
  have k0 := (h.cJ hi).trans hv
  have t1 : decide ((i : Int) < 0) = false := by rw [decide_eq_false_iff_not]; omega
  have t2 : decide ((8 : Int) ≤ (i : Int)) = false := by rw [decide_eq_false_iff_not]; omega
  have t3 : ¬ (i : Int) < 0 := by omega
  have t4 : (i : Int) < 8 := by omega
  clear h hv
  go_enter Tryz.func26, Tryz.ntmps26
  go_wp2
  go_ret
  exact ⟨rfl, rfl⟩
theorem svrule_nil (i : Int) (w : World) :
    Calls Tryz.prog 26 #[.pointer none, .int .i64 i] w fun e w' => e = .returned (.pointer none) ∧ w = w' := by
  go_enter Tryz.func26, Tryz.ntmps26
  go_wp2
  go_ret
  exact ⟨rfl, rfl⟩
/-- what was noted is forgotten. -/
def SvC.end (c : SvC) : SvC := { c with ac := false, nt := .slice none 0 0 }
theorem svforget_d (u : FrameMode) (w : World) (h : Sv w s c) :
    CallsD Tryz.prog 46 #[.pointer (some ⟨s, 0, none⟩)] u w fun e u' w' => u' = u ∧ (e = .returned (.tuple #[]) ∧ Sv w' s c.end ∧ Fr (fun k => k = s) w w') := by
  obtain ⟨w1, e1, h1, f1⟩ := h.setAc false
  obtain ⟨w2, e2, h2, f2⟩ := h1.setNt (.slice none 0 0)
  have H2 := Lib.hid (And.intro h2 (f1.trans f2))
  have kA := h.cA
  have kN := h1.cN
  have kw := h.wr
  have kw1 := h1.wr
  clear h h1 h2 f1 f2
  go_enter_d Tryz.func46, Tryz.ntmps46
  go_wp2
  go_end0
  exact ⟨rfl, H2.out.1, H2.out.2⟩
/-- a step that tells but an error. -/
abbrev stepV (e : Int) : Value := .agg #[.int .i64 e, .int .i64 0, .slice none 0 0, .slice none 0 0]
theorem box4S (X : World) (a b c d : Value) : ∃ w1 w2, X.alloc (.cells #[.int .i64 0, .int .i64 0, .slice none 0 0, .slice none 0 0] 46) = w1 ∧
    (∀ j, w1.cell? ⟨X.heap.size, j, none⟩ = (#[.int .i64 0, .int .i64 0, .slice none 0 0, .slice none 0 0] : Array Value)[j]?) ∧ (∀ j, w1.frozen? ⟨X.heap.size, j, none⟩ = false) ∧
    (((w1.setCell ⟨X.heap.size, 0, none⟩ a).setCell ⟨X.heap.size, 1, none⟩ b).setCell ⟨X.heap.size, 2, none⟩ c).setCell ⟨X.heap.size, 3, none⟩ d = w2 ∧
    Below X.heap.size X w2 ∧ Blk w2 X.heap.size 46 #[a, b, c, d] := by
  obtain ⟨w1, hw1, k1, b1, s1⟩ := box_new X #[.int .i64 0, .int .i64 0, .slice none 0 0, .slice none 0 0] 46
  refine ⟨w1, _, hw1, k1.rd, k1.wr, rfl, ?_, ?_⟩
  · rw [four_setC k1]
    exact b1.trans ((Fr.setObj (F := fun k => k = X.heap.size) (Fr.refl _ _) rfl _).below b1.size (fun k hk => by omega))
  · rw [four_setC k1]
    exact setObj_at (lt_of_block k1) _
theorem svunless_any (b : Bool) (w : World) :
    Calls Tryz.prog 73 #[.bool b] w fun e w' => e = .returned (stepV (if b then 0 else 11)) ∧ Below w.heap.size w w' := by
  obtain ⟨w1, w2, hw1, k1, f1, hw2, b2, k2⟩ := box4S w (.int .i64 (if b then 0 else 11)) (.int .i64 0) (.slice none 0 0) (.slice none 0 0)
  obtain ⟨bx, hbx⟩ : ∃ bx, bx = w.heap.size := ⟨_, rfl⟩
  rw [← hbx] at k1 f1 hw2 k2
  have H2 := Lib.hid (And.intro b2 k2)
  have HB := Lib.hid hbx
  clear b2 k2 hbx
  cases b
  all_goals
    simp only [if_true, Bool.false_eq_true, if_false] at hw2 H2 ⊢
    go_enter Tryz.func73, Tryz.ntmps73
    go_upto_region 1 with (fail)
    rw [← HB.out]
    clear hw1
    go_wp2
    refine bodyPost_ret (results_cell_row rfl _ _ bx _ _ (0, 0) _ rfl H2.out.2 Tryz.underlying46 rfl (by kernel_rfl)) rfl ?_
    exact ⟨rfl, H2.out.1⟩
end
end Go.Proofs.YtannniobeanhlaaGreat
/- The contracts of layer 18 (server): acts on a connection that bring no bytes: on, Do. -/
namespace Go.Proofs.YtannniobeanhlaaGreat
set_option linter.unusedSimpArgs false
set_option linter.unusedVariables false
set_option maxRecDepth 100000
open Go.ChangeShapes Go.WideShapes Go.ChangeAt Go.RowKit
section
variable {w w' W : World} {s : Nat} {c c' : SvC} {K : CnN} {σ : CnS}
abbrev actC (kd ck cn : Int) (dat : Value) (n : Int) (sed : Value) : Array Value := #[.int .i64 kd, .int .i64 ck, .int .i64 cn, dat, .int .i64 n, sed]
abbrev actV (kd ck cn : Int) (dat : Value) (n : Int) (sed : Value) : Value := .agg (actC kd ck cn dat n sed)
/-- what an act that brings no bytes does to a connection, and its error. -/
def onS (kd : Int) (σ : CnS) : Int × CnS :=
  if kd = 0 then (if σ.op then (11, σ) else (0, ⟨[], 0, σ.out, true⟩))
  else if kd = 1 then (if σ.op then (0, ⟨σ.z, σ.err, [], false⟩) else (11, σ))
  else if kd = 2 ∨ kd = 3 then (11, σ)
  else (1, σ)
set_option maxHeartbeats 2000000 in
theorem svon_any (kd ck cn n : Int) (dat sed sp : Value) (hk : kd = 2 ∨ kd = 3 → σ.op = false) (w : World) (h : CnAt w K σ) :
    Calls Tryz.prog 50 #[sp, .pointer (some ⟨K.c, 0, none⟩), actV kd ck cn dat n sed] w fun e w' => e = .returned (stepV (onS kd σ).1) ∧ CnAt w' K (onS kd σ).2 ∧ Fr K.F w w' := by
  obtain ⟨w1, hw1, k1, b1, s1⟩ := box_new w (actC kd ck cn dat n sed) 42
  obtain ⟨w2, hw2, k2, b2, s2⟩ := box_new w1 #[.int .i64 0, .int .i64 0, .slice none 0 0, .slice none 0 0] 46
  have HLT := Lib.hid (show (∀ b, K.F b → b < w.heap.size) from h.lt)
  have H2 := Lib.hid ((h.keep b1).keep b2)
  have B2 := Lib.hid (show Below w.heap.size w w2 from b1.trans (b2.mono b1.size))
  obtain ⟨ab, hab⟩ : ∃ z, z = w.heap.size := ⟨_, rfl⟩
  obtain ⟨rb, hrb⟩ : ∃ z, z = w1.heap.size := ⟨_, rfl⟩
  rw [← hab] at k1
  rw [← hrb] at k2
  have K1 := Lib.hid (k1.keep b2)
  have K2 := Lib.hid k2
  have HA := Lib.hid hab
  have HR := Lib.hid hrb
  have HSZ := Lib.hid (show w.heap.size ≤ rb ∧ rb < w2.heap.size from by rw [hrb]; exact ⟨b1.size, by rw [s2]; omega⟩)
  have kr := (k1.keep b2).rd
  have done : ∀ (wz : World) (e0 : Int) (σ' : CnS), Blk wz rb 46 #[.int .i64 0, .int .i64 0, .slice none 0 0, .slice none 0 0] → CnAt wz K σ' → Fr K.F w2 wz →
      Blk (setObj wz rb (.cells #[.int .i64 e0, .int .i64 0, .slice none 0 0, .slice none 0 0] 46 (0, 0))) rb 46 #[.int .i64 e0, .int .i64 0, .slice none 0 0, .slice none 0 0] ∧ CnAt (setObj wz rb (.cells #[.int .i64 e0, .int .i64 0, .slice none 0 0, .slice none 0 0] 46 (0, 0))) K σ' ∧ Fr K.F w (setObj wz rb (.cells #[.int .i64 e0, .int .i64 0, .slice none 0 0, .slice none 0 0] 46 (0, 0))) := by
    intro wz e0 σ' hz hc hf
    have fe := Fr.setObj (F := fun k => k = rb) (Fr.refl _ wz) rfl (.cells #[.int .i64 e0, .int .i64 0, .slice none 0 0, .slice none 0 0] 46 (0, 0))
    refine ⟨setObj_at (lt_of_block hz) _, hc.fr fe (fun b hb e => by have h1 := HLT.out b hb; have h2 := HSZ.out.1; omega), ?_⟩
    exact Fr.drop_new (F := K.F) (s := rb) (((Fr.of_below B2.out).mono (fun k (hk : False) => hk.elim)).trans ((hf.mono (fun k hk => Or.inl hk)).trans (fe.mono (fun k hk => Or.inr hk)))) HSZ.out.1
  have DN := Lib.hid done
  have NRB := Lib.hid (show ¬ K.F rb from fun hb => by have h1 := HLT.out rb hb; have h2 := HSZ.out.1; omega)
  clear h k1 k2 b1 b2 s1 s2 done
  by_cases hk0 : kd = 0
  · subst hk0
    cases ho : σ.op with
    | false =>
      have er : onS 0 σ = (0, ⟨[], 0, σ.out, true⟩) := by unfold onS; rw [if_pos rfl, ho]; rfl
      have CO := Lib.hid (copen_yes w2 H2.out ho)
      rw [er]
      dsimp only
      clear er ho
      clear hk
      go_enter Tryz.func50, Tryz.ntmps50
      go_upto_region 1 with (fail)
      rw [← HR.out, ← HA.out]
      clear hw1 hw2 hab hrb
      go_wp2_with (first
        | (go_at_call 74; ((with_reducible refine CO.out.mono ?_); rintro e w3 ⟨rfl, h3, f3⟩; have H3 := Lib.hid (And.intro h3 f3); have K3 := Lib.hid (K2.out.fr f3 NRB.out); clear h3 f3))
        | (go_at_call 73; ((with_reducible refine (svunless_any true _).mono ?_); rintro e w4 ⟨rfl, b4⟩; have H4 := Lib.hid (And.intro (H3.out.1.keep b4) (H3.out.2.trans ((Fr.of_below b4).mono (fun k (hk : False) => hk.elim)))); have K4 := Lib.hid (K3.out.keep b4); have kz := K4.out.rd; have kzw := K4.out.wr; clear b4)))
      rw [four_setC K4.out]
      obtain ⟨d1, d2, d3⟩ := DN.out _ 0 _ K4.out H4.out.1 H4.out.2
      refine bodyPost_ret (results_cell_row rfl _ _ rb _ _ (0, 0) _ rfl d1 Tryz.underlying46 rfl (by kernel_rfl)) rfl ?_
      exact ⟨rfl, d2, d3⟩
    | true =>
      have er : onS 0 σ = (11, σ) := by unfold onS; rw [if_pos rfl, ho]; rfl
      have CO := Lib.hid (copen_no w2 H2.out ho)
      rw [er]
      dsimp only
      clear er ho
      clear hk
      go_enter Tryz.func50, Tryz.ntmps50
      go_upto_region 1 with (fail)
      rw [← HR.out, ← HA.out]
      clear hw1 hw2 hab hrb
      go_wp2_with (first
        | (go_at_call 74; ((with_reducible refine CO.out.mono ?_); rintro e w3 ⟨rfl, rfl⟩; have H3 := Lib.hid (show CnAt w2 K σ ∧ Fr K.F w2 w2 from ⟨H2.out, Fr.refl _ _⟩); have K3 := K2))
        | (go_at_call 73; ((with_reducible refine (svunless_any false _).mono ?_); rintro e w4 ⟨rfl, b4⟩; have H4 := Lib.hid (And.intro (H3.out.1.keep b4) (H3.out.2.trans ((Fr.of_below b4).mono (fun k (hk : False) => hk.elim)))); have K4 := Lib.hid (K3.out.keep b4); have kz := K4.out.rd; have kzw := K4.out.wr; clear b4)))
      rw [four_setC K4.out]
      obtain ⟨d1, d2, d3⟩ := DN.out _ 11 _ K4.out H4.out.1 H4.out.2
      refine bodyPost_ret (results_cell_row rfl _ _ rb _ _ (0, 0) _ rfl d1 Tryz.underlying46 rfl (by kernel_rfl)) rfl ?_
      exact ⟨rfl, d2, d3⟩
  by_cases hk1 : kd = 1
  · subst hk1
    cases ho : σ.op with
    | false =>
      have er : onS 1 σ = (11, σ) := by unfold onS; rw [if_neg (by decide), if_pos rfl, ho]; rfl
      have CO := Lib.hid (cshut_no w2 H2.out ho)
      rw [er]
      dsimp only
      clear er ho
      clear hk
      go_enter Tryz.func50, Tryz.ntmps50
      go_upto_region 1 with (fail)
      rw [← HR.out, ← HA.out]
      clear hw1 hw2 hab hrb
      go_wp2_with (first
        | (go_at_call 75; ((with_reducible refine CO.out.mono ?_); rintro e w3 ⟨rfl, rfl⟩; have H3 := Lib.hid (show CnAt w2 K σ ∧ Fr K.F w2 w2 from ⟨H2.out, Fr.refl _ _⟩); have K3 := K2))
        | (go_at_call 73; ((with_reducible refine (svunless_any false _).mono ?_); rintro e w4 ⟨rfl, b4⟩; have H4 := Lib.hid (And.intro (H3.out.1.keep b4) (H3.out.2.trans ((Fr.of_below b4).mono (fun k (hk : False) => hk.elim)))); have K4 := Lib.hid (K3.out.keep b4); have kz := K4.out.rd; have kzw := K4.out.wr; clear b4)))
      rw [four_setC K4.out]
      obtain ⟨d1, d2, d3⟩ := DN.out _ 11 _ K4.out H4.out.1 H4.out.2
      refine bodyPost_ret (results_cell_row rfl _ _ rb _ _ (0, 0) _ rfl d1 Tryz.underlying46 rfl (by kernel_rfl)) rfl ?_
      exact ⟨rfl, d2, d3⟩
    | true =>
      have er : onS 1 σ = (0, ⟨σ.z, σ.err, [], false⟩) := by unfold onS; rw [if_neg (by decide), if_pos rfl, ho]; rfl
      have CO := Lib.hid (cshut_yes w2 H2.out ho)
      rw [er]
      dsimp only
      clear er ho
      clear hk
      go_enter Tryz.func50, Tryz.ntmps50
      go_upto_region 1 with (fail)
      rw [← HR.out, ← HA.out]
      clear hw1 hw2 hab hrb
      go_wp2_with (first
        | (go_at_call 75; ((with_reducible refine CO.out.mono ?_); rintro e w3 ⟨rfl, h3, f3⟩; have H3 := Lib.hid (And.intro h3 f3); have K3 := Lib.hid (K2.out.fr f3 NRB.out); clear h3 f3))
        | (go_at_call 73; ((with_reducible refine (svunless_any true _).mono ?_); rintro e w4 ⟨rfl, b4⟩; have H4 := Lib.hid (And.intro (H3.out.1.keep b4) (H3.out.2.trans ((Fr.of_below b4).mono (fun k (hk : False) => hk.elim)))); have K4 := Lib.hid (K3.out.keep b4); have kz := K4.out.rd; have kzw := K4.out.wr; clear b4)))
      rw [four_setC K4.out]
      obtain ⟨d1, d2, d3⟩ := DN.out _ 0 _ K4.out H4.out.1 H4.out.2
      refine bodyPost_ret (results_cell_row rfl _ _ rb _ _ (0, 0) _ rfl d1 Tryz.underlying46 rfl (by kernel_rfl)) rfl ?_
      exact ⟨rfl, d2, d3⟩
  by_cases hk2 : kd = 2 ∨ kd = 3
  · have ho := hk hk2
    have er : onS kd σ = (11, σ) := by unfold onS; rw [if_neg hk0, if_neg hk1, if_pos hk2]
    have CO := Lib.hid (show Calls Tryz.prog 24 #[.pointer (some ⟨K.c, 0, none⟩)] w2 (fun e w' => e = .returned (.bool false) ∧ w2 = w') from by have := cisopen_any w2 H2.out; rw [ho] at this; exact this)
    have H4 := Lib.hid (show CnAt w2 K σ ∧ Fr K.F w2 w2 from ⟨H2.out, Fr.refl _ _⟩)
    have K4 := K2
    have kz := K4.out.rd
    have kzw := K4.out.wr
    rw [er]
    dsimp only
    clear er ho hk0 hk1
    rcases hk2 with rfl | rfl
    all_goals
      clear hk
      go_enter Tryz.func50, Tryz.ntmps50
      go_upto_region 1 with (fail)
      rw [← HR.out, ← HA.out]
      clear hw1 hw2 hab hrb
      go_wp2_with (go_at_call 24; ((with_reducible refine CO.out.mono ?_); rintro e w3 ⟨rfl, rfl⟩))
      rw [four_setC K4.out]
      obtain ⟨d1, d2, d3⟩ := DN.out _ 11 _ K4.out H4.out.1 H4.out.2
      refine bodyPost_ret (results_cell_row rfl _ _ rb _ _ (0, 0) _ rfl d1 Tryz.underlying46 rfl (by kernel_rfl)) rfl ?_
      exact ⟨rfl, d2, d3⟩
  have er : onS kd σ = (1, σ) := by unfold onS; rw [if_neg hk0, if_neg hk1, if_neg hk2]
  have H4 := Lib.hid (show CnAt w2 K σ ∧ Fr K.F w2 w2 from ⟨H2.out, Fr.refl _ _⟩)
  have K4 := K2
  have kz := K4.out.rd
  have kzw := K4.out.wr
  have u0 : (kd == 0) = false := by simpa using hk0
  have u1 : (kd == 1) = false := by simpa using hk1
  have u2 : (kd == 2) = false := by simp; exact fun e => hk2 (Or.inl e)
  have u3 : (kd == 3) = false := by simp; exact fun e => hk2 (Or.inr e)
  rw [er]
  dsimp only
  clear er hk0 hk1 hk2
  clear hk
  go_enter Tryz.func50, Tryz.ntmps50
  go_upto_region 1 with (fail)
  rw [← HR.out, ← HA.out]
  clear hw1 hw2 hab hrb
  go_wp2
  rw [four_setC K4.out]
  obtain ⟨d1, d2, d3⟩ := DN.out _ 1 _ K4.out H4.out.1 H4.out.2
  refine bodyPost_ret (results_cell_row rfl _ _ rb _ _ (0, 0) _ rfl d1 Tryz.underlying46 rfl (by kernel_rfl)) rfl ?_
  exact ⟨rfl, d2, d3⟩
end
end Go.Proofs.YtannniobeanhlaaGreat
/- The contracts of layer 18 (server): Do, of acts that bring no bytes. -/
namespace Go.Proofs.YtannniobeanhlaaGreat
set_option linter.unusedSimpArgs false
set_option linter.unusedVariables false
set_option maxRecDepth 100000
open Go.ChangeShapes Go.WideShapes Go.ChangeAt Go.RowKit
section
variable {w w' W : World} {s : Nat} {c c' : SvC} {K : CnN} {σ : CnS}
set_option maxHeartbeats 4000000 in
theorem svdo_on (kd ck cn n : Int) (dat sed : Value) (hk4 : kd ≠ 4) (hk : kd = 2 ∨ kd = 3 → σ.op = false) (w : World) (h : Sv w s c) (hc : CnAt w K σ) (hn : ¬ K.F s)
    (hcn : ∀ wx c', Sv wx s c' → c'.K = c.K → Calls Tryz.prog 23 #[.pointer (some ⟨s, 0, none⟩), .int .i64 cn] wx fun e w' => e = .returned (.pointer (some ⟨K.c, 0, none⟩)) ∧ wx = w') :
    Calls Tryz.prog 20 #[.pointer (some ⟨s, 0, none⟩), actV kd ck cn dat n sed] w fun e w' => e = .returned (stepV (onS kd σ).1) ∧ CnAt w' K (onS kd σ).2 ∧ Sv w' s (c.read ck).end ∧ Fr (fun k => K.F k ∨ k = s) w w' := by
  obtain ⟨w1, hw1, k1, b1, s1⟩ := box_new w (actC kd ck cn dat n sed) 42
  obtain ⟨w2, hw2, k2, b2, s2⟩ := box_new w1 #[.int .i64 0, .int .i64 0, .slice none 0 0, .slice none 0 0] 46
  have HLT := Lib.hid (show (∀ b, K.F b → b < w.heap.size) ∧ s < w.heap.size from ⟨hc.lt, h.lt⟩)
  obtain ⟨ab, hab⟩ : ∃ z, z = w.heap.size := ⟨_, rfl⟩
  obtain ⟨rb, hrb⟩ : ∃ z, z = w1.heap.size := ⟨_, rfl⟩
  rw [← hab] at k1
  rw [← hrb] at k2
  have HA := Lib.hid hab
  have HR := Lib.hid hrb
  have HSZ := Lib.hid (show w.heap.size ≤ ab ∧ ab < rb ∧ rb < w2.heap.size from by rw [hrb, hab, s2, s1]; omega)
  obtain ⟨w3, e3, h3, f3⟩ := ((h.keep b1).keep b2).setAc true
  have H3 := Lib.hid h3
  have F3 := Lib.hid (show Fr (fun k => k = s) w w3 from ((Fr.of_below (show Below w.heap.size w w2 from b1.trans (b2.mono b1.size))).mono (fun k (hk : False) => hk.elim)).trans f3)
  have C3 := Lib.hid (((hc.keep b1).keep b2).fr f3 (fun b hb e => hn (by rw [← e]; exact hb)))
  have K1 := Lib.hid ((k1.keep b2).fr f3 (fun e => by have h1 := HLT.out.2; have h2 := HSZ.out; omega))
  have K2 := Lib.hid (k2.fr f3 (fun e => by have h1 := HLT.out.2; have h2 := HSZ.out; omega))
  have kA := ((h.keep b1).keep b2).cA
  have kw := ((h.keep b1).keep b2).wr
  have kr := K1.out.rd
  have u4 : (kd == 4) = false := by simpa using hk4
  have HN := Lib.hid hn
  have HK := Lib.hid hk
  have HCN := Lib.hid hcn
  have HZ3 := Lib.hid f3.size
  clear h hc k1 k2 b1 b2 s1 s2 h3 f3 hn hk hcn hk4
  obtain ⟨oe, hoe⟩ : ∃ z, z = (onS kd σ).1 := ⟨_, rfl⟩
  rw [← hoe]
  have HOE := Lib.hid hoe
  clear hoe
  go_enter_defers Tryz.func20, Tryz.ntmps20
  go_upto_region 1 with (fail)
  rw [← HR.out, ← HA.out]
  clear hw1 hab hrb
  go_upto_region 10 with (fail)
  try rw [e3]
  clear hw2 e3 kA kw u4 kr
  have N0 := Lib.hid (show Below w3.heap.size w3 w3.drew from below_draws (Below.refl _ _) 1)
  have CRd := Lib.hid (fun wx (hx : Sv wx s { c with ac := true }) => svread_any ck wx hx)
  have st := (K1.out.keep N0.out).rd
  refine wp_region_held_drew (S := fun wx => ∀ j, wx.cell? ⟨ab, j, none⟩ = (actC kd ck cn dat n sed)[j]?) (by kernel_rfl) st (fun hHeld => ?_)
  clear st
  refine wpAnyH_take (i := 0) (oi := ?_) (v := ?_) ?_ ?_ ?_ ?_ ?_ ?_ ?_ ?_
  rotate_left 2
  · simp only [List.getElem?_toArray, List.getElem?_cons_succ, List.getElem?_cons_zero]; rfl
  · kernel_rfl
  · kernel_rfl
  · kernel_rfl
  · exact putD (fn := Tryz.f20) rfl (by decide)
  · refine Or.inl ⟨by rfl, ?_⟩
    intro w' hSw
    (try dsimp only at hSw)
    go_simp
    all_goals (with_reducible rfl)
  · assumption
  try simp only [Act.put, List.setIfInBounds_toArray, List.set_cons_zero, List.set_cons_succ]
  refine wpAnyH_take (i := 1) (oi := ?_) (v := ?_) ?_ ?_ ?_ ?_ ?_ ?_ ?_ ?_
  rotate_left 2
  · simp only [List.getElem?_toArray, List.getElem?_cons_succ, List.getElem?_cons_zero]; rfl
  · kernel_rfl
  · kernel_rfl
  · kernel_rfl
  · exact putD (fn := Tryz.f20) rfl (by decide)
  · refine Or.inl ⟨by rfl, ?_⟩
    intro w' hSw
    (try dsimp only at hSw)
    go_simp
    all_goals (with_reducible rfl)
  · assumption
  try simp only [Act.put, List.setIfInBounds_toArray, List.set_cons_zero, List.set_cons_succ]
  refine wpAnyH_take (i := 2) (oi := ?_) (v := ?_) ?_ ?_ ?_ ?_ ?_ ?_ ?_ ?_
  rotate_left 2
  · simp only [List.getElem?_toArray, List.getElem?_cons_succ, List.getElem?_cons_zero]; rfl
  · kernel_rfl
  · kernel_rfl
  · kernel_rfl
  · exact putD (fn := Tryz.f20) rfl (by decide)
  · refine Or.inl ⟨by rfl, ?_⟩
    intro w' hSw
    (try dsimp only at hSw)
    go_simp
    all_goals (with_reducible rfl)
  · assumption
  try simp only [Act.put, List.setIfInBounds_toArray, List.set_cons_zero, List.set_cons_succ]
  refine wpAnyH_take (i := 3) (oi := ?_) (v := ?_) ?_ ?_ ?_ ?_ ?_ ?_ ?_ ?_
  rotate_left 2
  · simp only [List.getElem?_toArray, List.getElem?_cons_succ, List.getElem?_cons_zero]; rfl
  · kernel_rfl
  · kernel_rfl
  · kernel_rfl
  · exact putD (fn := Tryz.f20) rfl (by decide)
  · refine Or.inl ⟨by rfl, ?_⟩
    intro w' hSw
    (try dsimp only at hSw)
    go_simp
    all_goals (with_reducible rfl)
  · assumption
  try simp only [Act.put, List.setIfInBounds_toArray, List.set_cons_zero, List.set_cons_succ]
  refine wpAnyH_take (i := 4) (oi := ?_) (v := ?_) ?_ ?_ ?_ ?_ ?_ ?_ ?_ ?_
  rotate_left 2
  · simp only [List.getElem?_toArray, List.getElem?_cons_succ, List.getElem?_cons_zero]; rfl
  · kernel_rfl
  · kernel_rfl
  · kernel_rfl
  · exact putD (fn := Tryz.f20) rfl (by decide)
  · refine Or.inl ⟨by rfl, ?_⟩
    intro w' hSw
    (try dsimp only at hSw)
    go_simp
    all_goals (with_reducible rfl)
  · assumption
  try simp only [Act.put, List.setIfInBounds_toArray, List.set_cons_zero, List.set_cons_succ]
  refine wpAnyH_ready (rs := [5]) (by kernel_rfl) (by simp) ?_
  refine AllReadyH.cons (o := ?_) ?_ ?_ ?_
  rotate_left 1
  · simp only [List.getElem?_toArray, List.getElem?_cons_succ, List.getElem?_cons_zero]; rfl
  rotate_left 1
  · exact AllReadyH.nil
  intro K hK
  go_simp
  ((with_reducible refine (CRd.out _ (H3.out.keep N0.out)).mono ?_); rintro v w4 ⟨rfl, h4, f4⟩; have H4 := Lib.hid h4; have K4 := Lib.hid ((K1.out.keep N0.out).fr f4 (fun e => by have h1 := HLT.out.2; have h2 := HSZ.out; omega)); have R4 := Lib.hid ((K2.out.keep N0.out).fr f4 (fun e => by have h1 := HLT.out.2; have h2 := HSZ.out; omega)); have C4 := Lib.hid ((C3.out.keep N0.out).fr f4 (fun b hb e => HN.out (by rw [← e]; exact hb))); have F4 := Lib.hid (show Fr (fun k => k = s) w w4 from F3.out.trans (((Fr.of_below N0.out).mono (fun k (hk : False) => hk.elim)).trans f4)); clear h4 f4)
  refine hK.out _ _ K4.out.rd (fun hHeld => ?_)
  clear hK K
  try simp only [Act.put, List.setIfInBounds_toArray, List.set_cons_zero, List.set_cons_succ]
  refine wpAnyH_done (by kernel_rfl) ?_ _
  clear hHeld CRd K1 K2 C3
  have kr := K4.out.rd
  have CCn := Lib.hid (HCN.out w4 _ H4.out rfl)
  have COn := Lib.hid (fun sp => svon_any kd ck cn n dat sed sp HK.out w4 C4.out)
  rw [← HOE.out] at COn
  go_wp2_with (first
    | (go_at_call 23; ((with_reducible refine CCn.out.mono ?_); rintro v w5 ⟨rfl, rfl⟩))
    | (go_at_call 50; ((with_reducible refine (COn.out _).mono ?_); rintro v w6 ⟨rfl, c6, f6⟩; have C6 := Lib.hid c6; have F6 := Lib.hid f6; have H6 := Lib.hid (H4.out.fr f6 HN.out); have R6 := Lib.hid (R4.out.fr f6 (fun hb => by have h1 := HLT.out.1 rb hb; have h2 := HSZ.out; omega)); have kz := R6.out.rd; have kzw := R6.out.wr; clear c6 f6)))
  rw [four_setC R6.out]
  have fe := Fr.setObj (F := fun k => k = rb) (Fr.refl _ w6) rfl (.cells #[.int .i64 oe, .int .i64 0, .slice none 0 0, .slice none 0 0] 46 (0, 0))
  have k7 : Blk (setObj w6 rb (.cells #[.int .i64 oe, .int .i64 0, .slice none 0 0, .slice none 0 0] 46 (0, 0))) rb 46 #[.int .i64 oe, .int .i64 0, .slice none 0 0, .slice none 0 0] := setObj_at (lt_of_block R6.out) _
  generalize setObj w6 rb (.cells #[.int .i64 oe, .int .i64 0, .slice none 0 0, .slice none 0 0] 46 (0, 0)) = w7 at fe k7 ⊢
  have H7 := H6.out.fr fe (fun e => by have h1 := HLT.out.2; have h2 := HSZ.out; omega)
  have C7 := C6.out.fr fe (fun b hb e => by have h1 := HLT.out.1 b hb; have h2 := HSZ.out; omega)
  refine leaves_cons (f := 46) (args := #[.pointer (some ⟨s, 0, none⟩)]) (by simp) (by simp [go_sem]) ?_
  refine (svforget_d .returning _ H7).mono ?_
  rintro e u' w8 ⟨rfl, rfl, h8, f8⟩
  refine ⟨_, results_cell_row rfl _ _ rb _ _ (0, 0) _ rfl (Blk.fr k7 f8 (fun e => by have h1 := HLT.out.2; have h2 := HSZ.out; omega)) Tryz.underlying46 rfl (by kernel_rfl), rfl, C7.fr f8 (fun b hb e => HN.out (by rw [← e]; exact hb)), h8, ?_⟩
  exact Fr.drop_new (F := fun k => K.F k ∨ k = s) (s := rb) (((F4.out.mono (fun k hk => Or.inl (Or.inr hk))).trans ((F6.out.mono (fun k hk => Or.inl (Or.inl hk))).trans (fe.mono (fun k hk => Or.inr hk)))).trans (f8.mono (fun k hk => Or.inl (Or.inr hk)))) (by have h2 := HSZ.out; omega)
set_option maxHeartbeats 4000000 in
theorem svdo_none (kd ck cn n : Int) (dat sed : Value) (hk4 : kd ≠ 4) (w : World) (h : Sv w s c)
    (hcn : ∀ wx c', Sv wx s c' → c'.K = c.K → Calls Tryz.prog 23 #[.pointer (some ⟨s, 0, none⟩), .int .i64 cn] wx fun e w' => e = .returned (.pointer none) ∧ wx = w') :
    Calls Tryz.prog 20 #[.pointer (some ⟨s, 0, none⟩), actV kd ck cn dat n sed] w fun e w' => e = .returned (stepV 1) ∧ Sv w' s (c.read ck).end ∧ Fr (fun k => k = s) w w' := by
  obtain ⟨w1, hw1, k1, b1, s1⟩ := box_new w (actC kd ck cn dat n sed) 42
  obtain ⟨w2, hw2, k2, b2, s2⟩ := box_new w1 #[.int .i64 0, .int .i64 0, .slice none 0 0, .slice none 0 0] 46
  have HLT := Lib.hid (show True ∧ s < w.heap.size from ⟨trivial, h.lt⟩)
  obtain ⟨ab, hab⟩ : ∃ z, z = w.heap.size := ⟨_, rfl⟩
  obtain ⟨rb, hrb⟩ : ∃ z, z = w1.heap.size := ⟨_, rfl⟩
  rw [← hab] at k1
  rw [← hrb] at k2
  have HA := Lib.hid hab
  have HR := Lib.hid hrb
  have HSZ := Lib.hid (show w.heap.size ≤ ab ∧ ab < rb ∧ rb < w2.heap.size from by rw [hrb, hab, s2, s1]; omega)
  obtain ⟨w3, e3, h3, f3⟩ := ((h.keep b1).keep b2).setAc true
  have H3 := Lib.hid h3
  have F3 := Lib.hid (show Fr (fun k => k = s) w w3 from ((Fr.of_below (show Below w.heap.size w w2 from b1.trans (b2.mono b1.size))).mono (fun k (hk : False) => hk.elim)).trans f3)
  have K1 := Lib.hid ((k1.keep b2).fr f3 (fun e => by have h1 := HLT.out.2; have h2 := HSZ.out; omega))
  have K2 := Lib.hid (k2.fr f3 (fun e => by have h1 := HLT.out.2; have h2 := HSZ.out; omega))
  have kA := ((h.keep b1).keep b2).cA
  have kw := ((h.keep b1).keep b2).wr
  have kr := K1.out.rd
  have u4 : (kd == 4) = false := by simpa using hk4
  have HCN := Lib.hid hcn
  have HZ3 := Lib.hid f3.size
  clear h k1 k2 b1 b2 s1 s2 h3 f3 hcn hk4
  go_enter_defers Tryz.func20, Tryz.ntmps20
  go_upto_region 1 with (fail)
  rw [← HR.out, ← HA.out]
  clear hw1 hab hrb
  go_upto_region 10 with (fail)
  try rw [e3]
  clear hw2 e3 kA kw u4 kr
  have N0 := Lib.hid (show Below w3.heap.size w3 w3.drew from below_draws (Below.refl _ _) 1)
  have CRd := Lib.hid (fun wx (hx : Sv wx s { c with ac := true }) => svread_any ck wx hx)
  have st := (K1.out.keep N0.out).rd
  refine wp_region_held_drew (S := fun wx => ∀ j, wx.cell? ⟨ab, j, none⟩ = (actC kd ck cn dat n sed)[j]?) (by kernel_rfl) st (fun hHeld => ?_)
  clear st
  refine wpAnyH_take (i := 0) (oi := ?_) (v := ?_) ?_ ?_ ?_ ?_ ?_ ?_ ?_ ?_
  rotate_left 2
  · simp only [List.getElem?_toArray, List.getElem?_cons_succ, List.getElem?_cons_zero]; rfl
  · kernel_rfl
  · kernel_rfl
  · kernel_rfl
  · exact putD (fn := Tryz.f20) rfl (by decide)
  · refine Or.inl ⟨by rfl, ?_⟩
    intro w' hSw
    (try dsimp only at hSw)
    go_simp
    all_goals (with_reducible rfl)
  · assumption
  try simp only [Act.put, List.setIfInBounds_toArray, List.set_cons_zero, List.set_cons_succ]
  refine wpAnyH_take (i := 1) (oi := ?_) (v := ?_) ?_ ?_ ?_ ?_ ?_ ?_ ?_ ?_
  rotate_left 2
  · simp only [List.getElem?_toArray, List.getElem?_cons_succ, List.getElem?_cons_zero]; rfl
  · kernel_rfl
  · kernel_rfl
  · kernel_rfl
  · exact putD (fn := Tryz.f20) rfl (by decide)
  · refine Or.inl ⟨by rfl, ?_⟩
    intro w' hSw
    (try dsimp only at hSw)
    go_simp
    all_goals (with_reducible rfl)
  · assumption
  try simp only [Act.put, List.setIfInBounds_toArray, List.set_cons_zero, List.set_cons_succ]
  refine wpAnyH_take (i := 2) (oi := ?_) (v := ?_) ?_ ?_ ?_ ?_ ?_ ?_ ?_ ?_
  rotate_left 2
  · simp only [List.getElem?_toArray, List.getElem?_cons_succ, List.getElem?_cons_zero]; rfl
  · kernel_rfl
  · kernel_rfl
  · kernel_rfl
  · exact putD (fn := Tryz.f20) rfl (by decide)
  · refine Or.inl ⟨by rfl, ?_⟩
    intro w' hSw
    (try dsimp only at hSw)
    go_simp
    all_goals (with_reducible rfl)
  · assumption
  try simp only [Act.put, List.setIfInBounds_toArray, List.set_cons_zero, List.set_cons_succ]
  refine wpAnyH_take (i := 3) (oi := ?_) (v := ?_) ?_ ?_ ?_ ?_ ?_ ?_ ?_ ?_
  rotate_left 2
  · simp only [List.getElem?_toArray, List.getElem?_cons_succ, List.getElem?_cons_zero]; rfl
  · kernel_rfl
  · kernel_rfl
  · kernel_rfl
  · exact putD (fn := Tryz.f20) rfl (by decide)
  · refine Or.inl ⟨by rfl, ?_⟩
    intro w' hSw
    (try dsimp only at hSw)
    go_simp
    all_goals (with_reducible rfl)
  · assumption
  try simp only [Act.put, List.setIfInBounds_toArray, List.set_cons_zero, List.set_cons_succ]
  refine wpAnyH_take (i := 4) (oi := ?_) (v := ?_) ?_ ?_ ?_ ?_ ?_ ?_ ?_ ?_
  rotate_left 2
  · simp only [List.getElem?_toArray, List.getElem?_cons_succ, List.getElem?_cons_zero]; rfl
  · kernel_rfl
  · kernel_rfl
  · kernel_rfl
  · exact putD (fn := Tryz.f20) rfl (by decide)
  · refine Or.inl ⟨by rfl, ?_⟩
    intro w' hSw
    (try dsimp only at hSw)
    go_simp
    all_goals (with_reducible rfl)
  · assumption
  try simp only [Act.put, List.setIfInBounds_toArray, List.set_cons_zero, List.set_cons_succ]
  refine wpAnyH_ready (rs := [5]) (by kernel_rfl) (by simp) ?_
  refine AllReadyH.cons (o := ?_) ?_ ?_ ?_
  rotate_left 1
  · simp only [List.getElem?_toArray, List.getElem?_cons_succ, List.getElem?_cons_zero]; rfl
  rotate_left 1
  · exact AllReadyH.nil
  intro K hK
  go_simp
  ((with_reducible refine (CRd.out _ (H3.out.keep N0.out)).mono ?_); rintro v w4 ⟨rfl, h4, f4⟩; have H4 := Lib.hid h4; have K4 := Lib.hid ((K1.out.keep N0.out).fr f4 (fun e => by have h1 := HLT.out.2; have h2 := HSZ.out; omega)); have R4 := Lib.hid ((K2.out.keep N0.out).fr f4 (fun e => by have h1 := HLT.out.2; have h2 := HSZ.out; omega)); have F4 := Lib.hid (show Fr (fun k => k = s) w w4 from F3.out.trans (((Fr.of_below N0.out).mono (fun k (hk : False) => hk.elim)).trans f4)); clear h4 f4)
  refine hK.out _ _ K4.out.rd (fun hHeld => ?_)
  clear hK K
  try simp only [Act.put, List.setIfInBounds_toArray, List.set_cons_zero, List.set_cons_succ]
  refine wpAnyH_done (by kernel_rfl) ?_ _
  clear hHeld CRd K1 K2
  have kr := K4.out.rd
  have CCn := Lib.hid (HCN.out w4 _ H4.out rfl)
  have kz := R4.out.rd
  have kzw := R4.out.wr
  go_wp2_with (go_at_call 23; ((with_reducible refine CCn.out.mono ?_); rintro v w5 ⟨rfl, rfl⟩))
  rw [four_setC R4.out]
  have fe := Fr.setObj (F := fun k => k = rb) (Fr.refl _ w4) rfl (.cells #[.int .i64 1, .int .i64 0, .slice none 0 0, .slice none 0 0] 46 (0, 0))
  have k7 : Blk (setObj w4 rb (.cells #[.int .i64 1, .int .i64 0, .slice none 0 0, .slice none 0 0] 46 (0, 0))) rb 46 #[.int .i64 1, .int .i64 0, .slice none 0 0, .slice none 0 0] := setObj_at (lt_of_block R4.out) _
  generalize setObj w4 rb (.cells #[.int .i64 1, .int .i64 0, .slice none 0 0, .slice none 0 0] 46 (0, 0)) = w7 at fe k7 ⊢
  have H7 := H4.out.fr fe (fun e => by have h1 := HLT.out.2; have h2 := HSZ.out; omega)
  refine leaves_cons (f := 46) (args := #[.pointer (some ⟨s, 0, none⟩)]) (by simp) (by simp [go_sem]) ?_
  refine (svforget_d .returning _ H7).mono ?_
  rintro e u' w8 ⟨rfl, rfl, h8, f8⟩
  refine ⟨_, results_cell_row rfl _ _ rb _ _ (0, 0) _ rfl (Blk.fr k7 f8 (fun e => by have h1 := HLT.out.2; have h2 := HSZ.out; omega)) Tryz.underlying46 rfl (by kernel_rfl), rfl, h8, ?_⟩
  exact Fr.drop_new (F := fun k => k = s) (s := rb) ((F4.out.mono (fun k hk => Or.inl hk)).trans ((fe.mono (fun k hk => Or.inr hk)).trans (f8.mono (fun k hk => Or.inl hk)))) (by have h2 := HSZ.out; omega)
end
end Go.Proofs.YtannniobeanhlaaGreat
