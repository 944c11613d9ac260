/- The contracts of layer 14 (decode): New, Feed behind a fault. -/
import Derived.Test.YtaghookljjpllaaDcA
import Derived.Deep.WholeRow
namespace Go.Proofs.Ytaghookljjpllaa
set_option linter.unusedSimpArgs false
set_option linter.unusedVariables false
open Go.ChangeShapes Go.WideShapes Go.ChangeAt Go.RowKit
set_option maxHeartbeats 2000000 in
set_option maxRecDepth 100000 in
theorem feed_err (b : Nat) (z : List Int) (rules c err : Int) (w : World) (h : DecAt w b z rules err) (he : err ≠ 0) :
    Calls Try.prog 34 #[.pointer (some ⟨b, 0, none⟩), .int .u8 c] w fun e' w' => e' = .returned (.tuple #[reqV 0 0 0 ⟨#[]⟩ 0, .bool false, .int .i64 err]) ∧ Below w.heap.size w w' := by
  obtain ⟨bs, h1, h2⟩ := h
  have hl := h1.len
  have HL := Lib.hid hl
  have H2 := Lib.hid h2
  have g1 : (err != 0) = true := by simpa using he
  clear h1 h2 he hl
  go_enter Try.func34, Try.ntmps34
  go_upto_region 1 with (fail)
  obtain ⟨w1, hw1, hbk, hbl, hsz1⟩ := box_new w (reqC 0 0 0 ⟨#[]⟩ 0) 41
  change Code.wp _ _ _ _ (w.alloc (.cells (reqC 0 0 0 ⟨#[]⟩ 0) 41))
  rw [hw1]
  obtain ⟨b0, hb0⟩ : ∃ b0, b0 = w.heap.size := ⟨_, rfl⟩
  rw [← hb0] at hbk ⊢
  have HB0 := Lib.hid hb0
  have BK := Lib.hid hbk
  have BL := Lib.hid hbl
  have H3 := Lib.hid (H2.out.keep hbl)
  have k3' : w1.cell? ⟨b, 77, none⟩ = some (.int .i64 err) := by rw [blk_cell H3.out]; exact (decC_at _ _ _ _ HL.out).2.2.1
  have k0 := hbk.rd
  have p0 := hbk.wr
  have NB := Lib.hid (show b0 ≠ b from by have := lt_of_block H2.out; omega)
  clear hbk hbl hsz1 hw1 hb0
  go_upto_region 2 with (fail)
  have kk : ∀ W, Fr (fun k => k = b0) w1 W → W.cell? ⟨b, 77, none⟩ = some (.int .i64 err) := fun W hW => by rw [blk_cell (H3.out.fr hW (fun h => NB.out h.symm))]; exact (decC_at _ _ _ _ HL.out).2.2.1
  have KK := Lib.hid kk
  clear kk
  refine wp_region_held_drew (S := fun w' => w'.cell? ⟨b, 77, none⟩ = some (.int .i64 err)) (by kernel_rfl) k3' (fun hHeld => ?_)
  have D0 := Lib.hid (show Blk w1.drew b0 _ (reqC 0 0 0 ⟨#[]⟩ 0) from BK.out)
  have k1 := D0.out.rd
  have p1 := D0.out.wr
  refine wpAnyH_take (i := 0) (oi := ?_) (v := ?_) ?_ ?_ ?_ ?_ ?_ ?_ ?_ ?_
  rotate_left 2
  · simp only [List.getElem?_toArray, List.getElem?_cons_succ, List.getElem?_cons_zero]; rfl
  · kernel_rfl
  · kernel_rfl
  · kernel_rfl
  · exact fun _ _ _ h => h
  · refine Or.inl ⟨by rfl, ?_⟩
    intro w' hSw
    (try dsimp only at hSw)
    go_simp
    all_goals (with_reducible rfl)
  · assumption
  try simp only [Act.put, List.setIfInBounds_toArray, List.set_cons_zero, List.set_cons_succ]
  refine wpAnyH_take (i := 1) (oi := ?_) (v := ?_) ?_ ?_ ?_ ?_ ?_ ?_ ?_ ?_
  rotate_left 2
  · simp only [List.getElem?_toArray, List.getElem?_cons_succ, List.getElem?_cons_zero]; rfl
  · kernel_rfl
  · kernel_rfl
  · kernel_rfl
  · exact fun _ _ _ h => h
  · refine Or.inl ⟨by rfl, ?_⟩
    intro w' hSw
    (try dsimp only at hSw)
    go_simp
    all_goals (with_reducible rfl)
  · assumption
  try simp only [Act.put, List.setIfInBounds_toArray, List.set_cons_zero, List.set_cons_succ]
  refine wpAnyH_take (i := 2) (oi := ?_) (v := ?_) ?_ ?_ ?_ ?_ ?_ ?_ ?_ ?_
  rotate_left 2
  · simp only [List.getElem?_toArray, List.getElem?_cons_succ, List.getElem?_cons_zero]; rfl
  · kernel_rfl
  · kernel_rfl
  · kernel_rfl
  · exact fun _ _ _ h => h
  · refine Or.inl ⟨by rfl, ?_⟩
    intro w' hSw
    (try dsimp only at hSw)
    go_simp
    all_goals (with_reducible rfl)
  · assumption
  try simp only [Act.put, List.setIfInBounds_toArray, List.set_cons_zero, List.set_cons_succ]
  refine wpAnyH_take (i := 3) (oi := ?_) (v := ?_) ?_ ?_ ?_ ?_ ?_ ?_ ?_ ?_
  rotate_left 2
  · simp only [List.getElem?_toArray, List.getElem?_cons_succ, List.getElem?_cons_zero]; rfl
  · kernel_rfl
  · kernel_rfl
  · kernel_rfl
  · exact fun _ _ _ h => h
  · refine Or.inl ⟨by rfl, ?_⟩
    intro w' hSw
    (try dsimp only at hSw)
    go_simp
    all_goals (with_reducible rfl)
  · assumption
  try simp only [Act.put, List.setIfInBounds_toArray, List.set_cons_zero, List.set_cons_succ]
  refine wpAnyH_take (i := 4) (oi := ?_) (v := ?_) ?_ ?_ ?_ ?_ ?_ ?_ ?_ ?_
  rotate_left 2
  · simp only [List.getElem?_toArray, List.getElem?_cons_succ, List.getElem?_cons_zero]; rfl
  · kernel_rfl
  · kernel_rfl
  · kernel_rfl
  · exact fun _ _ _ h => h
  · refine Or.inl ⟨by rfl, ?_⟩
    intro w' hSw
    (try dsimp only at hSw)
    go_simp
    all_goals (with_reducible rfl)
  · assumption
  try simp only [Act.put, List.setIfInBounds_toArray, List.set_cons_zero, List.set_cons_succ]
  refine wpAnyH_ready (rs := [5]) (by kernel_rfl) (by simp) ?_
  refine AllReadyH.cons (o := ?_) ?_ ?_ ?_
  rotate_left 1
  · simp only [List.getElem?_toArray, List.getElem?_cons_succ, List.getElem?_cons_zero]; rfl
  rotate_left 1
  · exact AllReadyH.nil
  intro K hK
  go_simp
  skip
  refine hK.out _ _ (by rw [five_set BK.out]; exact KK.out _ (Fr.setObj (F := fun k => k = b0) (Fr.refl _ _) rfl _).drew) (fun hHeld => ?_)
  clear hK K
  try simp only [Act.put, List.setIfInBounds_toArray, List.set_cons_zero, List.set_cons_succ]
  refine wpAnyH_take (i := 6) (oi := ?_) (v := ?_) ?_ ?_ ?_ ?_ ?_ ?_ ?_ ?_
  rotate_left 2
  · simp only [List.getElem?_toArray, List.getElem?_cons_succ, List.getElem?_cons_zero]; rfl
  · kernel_rfl
  · kernel_rfl
  · kernel_rfl
  · exact fun _ _ _ h => h
  · refine Or.inl ⟨by rfl, ?_⟩
    intro w' hSw
    (try dsimp only at hSw)
    go_simp
    all_goals (with_reducible rfl)
  · assumption
  try simp only [Act.put, List.setIfInBounds_toArray, List.set_cons_zero, List.set_cons_succ]
  refine wpAnyH_take (i := 7) (oi := ?_) (v := ?_) ?_ ?_ ?_ ?_ ?_ ?_ ?_ ?_
  rotate_left 2
  · simp only [List.getElem?_toArray, List.getElem?_cons_succ, List.getElem?_cons_zero]; rfl
  · kernel_rfl
  · kernel_rfl
  · kernel_rfl
  · exact fun _ _ _ h => h
  · refine Or.inl ⟨by rfl, ?_⟩
    intro w' hSw
    (try dsimp only at hSw)
    go_simp
    all_goals (with_reducible rfl)
  · assumption
  try simp only [Act.put, List.setIfInBounds_toArray, List.set_cons_zero, List.set_cons_succ]
  refine wpAnyH_done (by kernel_rfl) ?_ _
  clear hHeld k0 p0 k1 p1
  go_wp2
  rw [five_set BK.out]
  refine bodyPost_ret (results_cell2 rfl _ _ b0 _ _ (0, 0) _ rfl (setObj_at (lt_of_block BK.out) _) Try.underlying41 rfl (by kernel_rfl)) rfl ⟨?_, ?_⟩
  · rfl
  · exact below_draws (BL.out.trans ((Fr.setObj (F := fun k => k = b0) (Fr.refl _ _) rfl _).below BL.out.size (fun k hk => by have := HB0.out; omega))) 1
def zero75 : List Int := List.replicate 75 0
theorem zero_dec (w : World) : (zeroValue 48).run Try.prog w = .ok (.agg (decC zero75 0 0 0)) w := by kernel_rfl
theorem decC_size (bs : List Int) (n : Nat) (rules err : Int) (h : bs.length = 75) : (decC bs n rules err).size = 78 := by unfold decC; simp [h]
theorem zero75_len : zero75.length = 75 := rfl
theorem decC_rules (bs : List Int) (n : Nat) (rules r err : Int) (h : bs.length = 75) : (decC bs n rules err).setIfInBounds 76 (.int .i64 r) = decC bs n r err := by
  unfold decC
  have hl : (bs.map (Value.int .u8)).length = 75 := by rw [List.length_map, h]
  rw [List.setIfInBounds_toArray, List.set_append_right _ _ (by omega), hl]; rfl
theorem decC_one (bs : List Int) (n : Nat) (rules err : Int) : (decC bs n rules err).all (·.oneCell') = true := by
  unfold decC
  rw [List.all_toArray, List.all_append, Bool.and_eq_true]
  refine ⟨?_, rfl⟩
  rw [List.all_eq_true]
  intro x hx
  obtain ⟨z, _, rfl⟩ := List.mem_map.1 hx
  rfl
theorem infoDec : (Try.prog.info? 48).map (·.size) = some 78 := by kernel_rfl
theorem store_dec (w : World) (bs bs' : List Int) (n n' : Nat) (r r' e e' : Int) (h : bs.length = 75) (h' : bs'.length = 75) :
    (storeCells ⟨w.heap.size, 0, none⟩ (decC bs' n' r' e').toList 0).run Try.prog (w.alloc (.cells (decC bs n r e) 48)) = .ok () (w.alloc (.cells (decC bs' n' r' e') 48)) :=
  run_storeCells_new w _ _ _ (by rw [decC_size _ _ _ _ h']; exact infoDec) (by rw [decC_size _ _ _ _ h, decC_size _ _ _ _ h']) (decC_one _ _ _ _)
set_option maxRecDepth 100000 in
theorem new_any (rules : Int) (w : World) : Calls Try.prog 25 #[.int .i64 rules] w fun e w' => e = .returned (.agg (decC zero75 0 rules 0)) ∧ Below w.heap.size w w' := by
  have hz := zero_dec
  have hs1 := decC_size zero75 0 0 0 zero75_len
  have hs2 := decC_size zero75 0 rules 0 zero75_len
  have hr1 := decC_rules zero75 0 0 rules 0 zero75_len
  have hr2 : (decC zero75 0 0 0).toList.set 76 (.int .i64 rules) = (decC zero75 0 rules 0).toList := by rw [← hr1]; simp
  have hst := store_dec w zero75 zero75 0 0 0 rules 0 0 zero75_len zero75_len
  go_enter Try.func25, Try.ntmps25
  go_wp2
  refine bodyPost_ret (results_cell_row rfl _ _ w.heap.size _ _ (0, 0) _ rfl (heap_alloc_new w _) Try.underlying48 rfl (by rw [hs2]; exact infoDec)) rfl ⟨rfl, (Below.refl _ _).alloc (Nat.le_refl _) _⟩
/-- a copy of a decoder. -/
theorem DecAt.copy {w : World} {b : Nat} {z : List Int} {rules err : Int} (h : DecAt w b z rules err) : ∃ bs, bs.length = 75 ∧ Blk w b 48 (decC bs z.length rules err) ∧ ∀ w' b', Blk w' b' 48 (decC bs z.length rules err) → DecAt w' b' z rules err := by
  obtain ⟨bs, h1, h2⟩ := h
  exact ⟨bs, h1.len, h2, fun w' b' h' => ⟨bs, h1, h'⟩⟩
set_option maxHeartbeats 2000000 in
set_option maxRecDepth 100000 in
theorem try_any (b : Nat) (z : List Int) (rules c err : Int) (w : World) (h : DecAt w b z rules err) (R : Value)
    (hf : ∀ w' b', DecAt w' b' z rules err → Calls Try.prog 34 #[.pointer (some ⟨b', 0, none⟩), .int .u8 c] w' fun e' w'' => e' = .returned R ∧ Fr (fun k => k = b') w' w'')
    (op rule cost k : Int) (s : ByteArray) (B : Bool) (E : Int) (hR : R = .tuple #[reqV op rule cost s k, .bool B, .int .i64 E]) :
    Calls Try.prog 33 #[.pointer (some ⟨b, 0, none⟩), .int .u8 c] w fun e' w' => e' = .returned R ∧ Below w.heap.size w w' := by
  subst hR
  obtain ⟨bs, hbl, hb, hc⟩ := h.copy
  have HB := Lib.hid hb
  have HC := Lib.hid hc
  have HF := Lib.hid hf
  have hz := zero_dec
  have hs1 := decC_size zero75 0 0 0 zero75_len
  have hs2 := decC_size bs z.length rules err hbl
  have hst := fun w => store_dec w zero75 bs 0 z.length 0 rules 0 err zero75_len hbl
  have HBL := Lib.hid hbl
  clear h hb hc hf hbl
  go_enter Try.func33, Try.ntmps33
  go_upto_region 1 with (fail)
  obtain ⟨w1, hw1, hbk, hbl, hsz1⟩ := box_new w (reqC 0 0 0 ⟨#[]⟩ 0) 41
  change Code.wp _ _ _ _ (w.alloc (.cells (reqC 0 0 0 ⟨#[]⟩ 0) 41))
  rw [hw1]
  obtain ⟨b0, hb0⟩ : ∃ b0, b0 = w.heap.size := ⟨_, rfl⟩
  rw [← hb0] at hbk ⊢
  have HB0 := Lib.hid hb0
  have BK := Lib.hid hbk
  have BL := Lib.hid hbl
  have H3 := Lib.hid (HB.out.keep hbl)
  clear hbk hbl hsz1 hw1 hb0
  go_upto_region 2 with (refine wpList_load_row (by rfl) 48 _ (by rfl) b (by rfl) _ _ (0, 0) _ H3.out Try.underlying48 rfl (by rw [hs2]; exact infoDec) ?_)
  obtain ⟨w2, hw2, hbk, hbl, hsz⟩ := box_new w1 (decC bs z.length rules err) 48
  rw [hw2]
  obtain ⟨b7, hb7⟩ : ∃ k, k = w1.heap.size := ⟨_, rfl⟩
  rw [← hb7] at hbk ⊢
  have HB7 := Lib.hid hb7
  have D2 := Lib.hid (HC.out _ _ hbk)
  have K2 := Lib.hid (BK.out.keep hbl)
  have B2 := Lib.hid (G.below_on BL.out hbl)
  have NB := Lib.hid (show b0 ≠ b7 from by have := lt_of_block BK.out; omega)
  have NW := Lib.hid (show w.heap.size ≤ b7 from by have := BL.out.size; omega)
  clear hw2 hbk hbl hsz hb7 hz hs1 hs2 hst
  go_wp2_with (go_at_call 34; ((with_reducible refine (HF.out _ _ D2.out).mono ?_); rintro e' w3 ⟨rfl, f3⟩; have F3 := Lib.hid f3; have K3 := Lib.hid (K2.out.fr f3 NB.out); have k3 := K3.out.rd; have p3 := K3.out.wr; clear f3))
  rw [five_set K3.out]
  refine bodyPost_ret (results_cell2 rfl _ _ b0 _ _ (0, 0) _ rfl (setObj_at (lt_of_block K3.out) _) Try.underlying41 rfl (by kernel_rfl)) rfl ⟨?_, ?_⟩
  · rfl
  · have hb0e := HB0.out
    have hnw := NW.out
    exact B2.out.trans ((F3.out.below B2.out.size (fun k hk => by omega)).trans ((Fr.setObj (F := fun k => k = b0) (Fr.refl _ _) rfl _).below (Nat.le_trans B2.out.size F3.out.size) (fun k hk => by omega)))
end Go.Proofs.Ytaghookljjpllaa
