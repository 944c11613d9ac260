/- The contracts of layer 14 at a decoder that is the head of a greater struct. -/
import Derived.Test.YtaghookljjpllaaDcB
import Derived.Deep.MidRow
namespace Go.Proofs.Ytaghookljjpllaa
set_option linter.unusedSimpArgs false
set_option linter.unusedVariables false
open Go.ChangeShapes Go.WideShapes Go.ChangeAt Go.RowKit
/-- the cells of a struct that begins with a decoder. -/
def decX (bs : List Int) (n : Nat) (rules err : Int) (tl : List Value) : Array Value := (bs.map (Value.int .u8) ++ ([Value.int .i64 (n : Int), Value.int .i64 rules, Value.int .i64 err] ++ tl)).toArray
theorem decX_eq (bs : List Int) (n : Nat) (rules err : Int) (tl : List Value) : decX bs n rules err tl = ((decC bs n rules err).toList ++ tl).toArray := by unfold decX decC; simp
theorem decX_at (bs : List Int) (n : Nat) (rules err : Int) (tl : List Value) (h : bs.length = 75) : (decX bs n rules err tl)[75]? = some (.int .i64 (n : Int)) ∧ (decX bs n rules err tl)[76]? = some (.int .i64 rules) ∧ (decX bs n rules err tl)[77]? = some (.int .i64 err) ∧ ∀ i, i < 75 → (decX bs n rules err tl)[i]? = some (.int .u8 (bs.getD i 0)) := by
  unfold decX
  have hl : (bs.map (Value.int .u8)).length = 75 := by rw [List.length_map, h]
  refine ⟨?_, ?_, ?_, fun i hi => ?_⟩
  · rw [List.getElem?_toArray, List.getElem?_append_right (by omega), hl]; rfl
  · rw [List.getElem?_toArray, List.getElem?_append_right (by omega), hl]; rfl
  · rw [List.getElem?_toArray, List.getElem?_append_right (by omega), hl]; rfl
  · rw [List.getElem?_toArray, List.getElem?_append_left (by omega), List.getElem?_map]
    simp [List.getD, show i < bs.length by omega]
theorem decX_tl (bs : List Int) (n : Nat) (rules err : Int) (tl : List Value) (h : bs.length = 75) (i : Nat) : (decX bs n rules err tl)[78 + i]? = tl[i]? := by
  unfold decX
  have hl : (bs.map (Value.int .u8)).length = 75 := by rw [List.length_map, h]
  rw [List.getElem?_toArray, List.getElem?_append_right (by omega), hl, show 78 + i - 75 = i + 3 by omega, List.getElem?_append_right (by simp)]
  rfl
theorem decX_byte (bs : List Int) (n : Nat) (rules err : Int) (tl : List Value) (x : Int) (i : Nat) (h : bs.length = 75) (hi : i < 75) : (decX bs n rules err tl).setIfInBounds i (.int .u8 x) = decX (bs.set i x) n rules err tl := by
  unfold decX
  rw [List.setIfInBounds_toArray, List.set_append_left _ _ (by rw [List.length_map]; omega), List.map_set]
theorem decX_n (bs : List Int) (n m : Nat) (rules err : Int) (tl : List Value) (h : bs.length = 75) : (decX bs n rules err tl).setIfInBounds 75 (.int .i64 (m : Int)) = decX bs m rules err tl := by
  unfold decX
  have hl : (bs.map (Value.int .u8)).length = 75 := by rw [List.length_map, h]
  rw [List.setIfInBounds_toArray, List.set_append_right _ _ (by omega), hl]; rfl
theorem decX_err (bs : List Int) (n : Nat) (rules err e : Int) (tl : List Value) (h : bs.length = 75) : (decX bs n rules err tl).setIfInBounds 77 (.int .i64 e) = decX bs n rules e tl := by
  unfold decX
  have hl : (bs.map (Value.int .u8)).length = 75 := by rw [List.length_map, h]
  rw [List.setIfInBounds_toArray, List.set_append_right _ _ (by omega), hl]; rfl
theorem decX_set (bs : List Int) (n : Nat) (rules err : Int) (tl : List Value) (i : Nat) (v : Value) (h : bs.length = 75) : (decX bs n rules err tl).setIfInBounds (78 + i) v = decX bs n rules err (tl.set i v) := by
  unfold decX
  have hl : (bs.map (Value.int .u8)).length = 75 := by rw [List.length_map, h]
  rw [List.setIfInBounds_toArray, List.set_append_right _ _ (by omega), hl, show 78 + i - 75 = i + 3 by omega]; rfl
def DecX (T : TypeId) (tl : List Value) (w : World) (b : Nat) (z : List Int) (rules err : Int) : Prop := ∃ bs, DecIn bs z rules ∧ Blk w b T (decX bs z.length rules err tl)
section
variable {w w' : World} {T : TypeId} {tl : List Value} {b : Nat} {z : List Int} {rules err : Int}
theorem DecX.keep (h : DecX T tl w b z rules err) (hb : Below w.heap.size w w') : DecX T tl w' b z rules err := by
  obtain ⟨bs, h1, h2⟩ := h
  exact ⟨bs, h1, h2.keep hb⟩
theorem DecX.fr {F : Nat → Prop} (h : DecX T tl w b z rules err) (hf : Fr F w w') (hF : ¬ F b) : DecX T tl w' b z rules err := by
  obtain ⟨bs, h1, h2⟩ := h
  exact ⟨bs, h1, h2.fr hf hF⟩
theorem DecX.lt (h : DecX T tl w b z rules err) : b < w.heap.size := by
  obtain ⟨bs, h1, h2⟩ := h
  exact lt_of_block h2
theorem DecX.cell (h : DecX T tl w b z rules err) (i : Nat) : w.cell? ⟨b, 78 + i, none⟩ = tl[i]? := by
  obtain ⟨bs, h1, h2⟩ := h
  rw [blk_cell h2]; exact decX_tl _ _ _ _ _ h1.len i
theorem DecX.free (h : DecX T tl w b z rules err) (i : Nat) : w.frozen? ⟨b, i, none⟩ = false := by
  obtain ⟨bs, h1, h2⟩ := h
  exact h2.wr i
theorem DecX.set (h : DecX T tl w b z rules err) (i : Nat) (v : Value) : ∃ w', w.setCell ⟨b, 78 + i, none⟩ v = w' ∧ DecX T (tl.set i v) w' b z rules err ∧ Fr (fun k => k = b) w w' ∧ w'.heap.size = w.heap.size := by
  obtain ⟨bs, h1, h2⟩ := h
  obtain ⟨w2, e, r, f, s⟩ := G.box_set h2 (78 + i) v _ (decX_set _ _ _ _ _ _ _ h1.len)
  exact ⟨w2, e, ⟨bs, h1, r⟩, f, s⟩
/-- the decoder alone, as a copy has it. -/
theorem DecX.copy (h : DecX T tl w b z rules err) : ∃ bs, bs.length = 75 ∧ Blk w b T (decX bs z.length rules err tl) ∧ ∀ w' b', Blk w' b' 48 (decC bs z.length rules err) → DecAt w' b' z rules err := by
  obtain ⟨bs, h1, h2⟩ := h
  exact ⟨bs, h1.len, h2, fun w' b' h' => ⟨bs, h1, h'⟩⟩
end
theorem rd_decx {T : TypeId} {tl : List Value} {w : World} {b m k : Nat} {bs zs : List Int} {rules e : Int} (h : Blk w b T (decX bs m rules e tl)) (hl : bs.length = 75) (hk : k ≤ 75) (ht : bs.take k = zs) (hb : byt bs) : RdI w .u8 (some ⟨b, 0, none⟩) k k zs := by
  subst ht
  refine ⟨by rw [List.length_take]; omega, Nat.le_refl _, by unfold maxLen; omega, fun h0 => ⟨b, 0, rfl, lt_of_block h, fun i hi => ?_⟩, fun z hz => u8_wf (hb z (List.mem_of_mem_take hz))⟩
  rw [Nat.zero_add, blk_cell h, (decX_at _ _ _ _ _ hl).2.2.2 i (by omega), getD_take hi]
theorem errx (T : TypeId) (tl : List Value) (b : Nat) (z : List Int) (rules err : Int) (w : World) (h : DecX T tl w b z rules err) : Calls Try.prog 20 #[.pointer (some ⟨b, 0, none⟩)] w fun e w' => e = .returned (.int .i64 err) ∧ w = w' := by
  obtain ⟨bs, h1, h2⟩ := h
  have k : w.cell? ⟨b, 77, none⟩ = some (.int .i64 err) := by rw [blk_cell h2]; exact (decX_at _ _ _ _ _ h1.len).2.2.1
  clear h1 h2
  go_enter Try.func20, Try.ntmps20
  go_wp2
  go_ret
  exact ⟨rfl, rfl⟩
set_option maxHeartbeats 4000000 in
set_option maxRecDepth 100000 in
theorem feedx_ok (T : TypeId) (tl : List Value) (b : Nat) (z : List Int) (rules c : Int) (w : World) (h : DecX T tl w b z rules 0) (hc : 0 ≤ c ∧ c ≤ 255) (q : Req) (m e : Int) (hp : parseZ (z ++ [c]) rules = (q, m, e)) :
    Calls Try.prog 34 #[.pointer (some ⟨b, 0, none⟩), .int .u8 c] w fun e' w' => e' = .returned (.tuple #[reqV q.op q.rule q.cost (strOfNums q.key) q.k, .bool (decide (0 < m)), .int .i64 e]) ∧ DecX T tl w' b (nextZ rules z c) rules e ∧ Fr (fun k => k = b) w w' := by
  have hnc := Lib.hid (show cleanZ (nextZ rules z c) rules (nextZ rules z c).length from by obtain ⟨bs, h1, _⟩ := h; exact next_clean h1.clean c)
  obtain ⟨bs, h1, h2⟩ := h
  have hs := h1.short
  have hl := h1.len
  obtain ⟨hn1, hn2⟩ := h1.next hc
  have H1 := Lib.hid h1
  have H2 := Lib.hid h2
  have HN1 := Lib.hid hn1
  have HN2 := Lib.hid hn2
  have HP := Lib.hid hp
  have HBL := Lib.hid (lt_of_block h2)
  have HLB := Lib.hid hl
  obtain ⟨n, hn⟩ : ∃ n, n = z.length := ⟨_, rfl⟩
  rw [← hn] at hs H2 HN1 HN2
  have HN := Lib.hid hn
  obtain ⟨d1, d2, d3, d4⟩ := decX_at bs n rules 0 tl hl
  have H2' := H2.out
  have k1 : w.cell? ⟨b, 75, none⟩ = some (.int .i64 (n : Int)) := by rw [blk_cell H2']; exact d1
  have k3 : w.cell? ⟨b, 77, none⟩ = some (.int .i64 0) := by rw [blk_cell H2']; exact d3
  clear h1 h2 hn1 hn2 hp hl hn d1 d2 d3 H2'
  go_enter Try.func34, Try.ntmps34
  go_upto_region 1 with (fail)
  obtain ⟨w1, hw1, hbk, hbl, hsz1⟩ := box_new w (reqC 0 0 0 ⟨#[]⟩ 0) 41
  change Code.wp _ _ _ _ (w.alloc (.cells (reqC 0 0 0 ⟨#[]⟩ 0) 41))
  rw [hw1]
  obtain ⟨b0, hb0⟩ : ∃ b0, b0 = w.heap.size := ⟨_, rfl⟩
  rw [← hb0] at hbk ⊢
  have HB0 := Lib.hid hb0
  have BK := Lib.hid hbk
  have BL := Lib.hid hbl
  have H3 := Lib.hid (H2.out.keep hbl)
  have k1' : w1.cell? ⟨b, 75, none⟩ = some (.int .i64 (n : Int)) := by rw [blk_cell H3.out]; exact (decX_at _ _ _ _ _ HLB.out).1
  have k3' : w1.cell? ⟨b, 77, none⟩ = some (.int .i64 0) := by rw [blk_cell H3.out]; exact (decX_at _ _ _ _ _ HLB.out).2.2.1
  have k4 : w1.cell? ⟨b, n, none⟩ = some (.int .u8 (bs.getD n 0)) := by rw [blk_cell H3.out]; exact (decX_at _ _ _ _ _ HLB.out).2.2.2 n (by omega)
  have p3 := H3.out.wr
  have t1 : (0 : Int) ≤ (n : Int) := by omega
  have t2 : (n : Int) < 75 := by omega
  have t3 : ¬ n = 75 := by omega
  have t4 : ¬ 75 = n := by omega
  clear k1 k3 d4 hbk hbl hsz1 hw1 hb0
  go_upto_region 3 with (fail)
  clear k3'
  have kk : (w1.setCell ⟨b, n, none⟩ (.int .u8 c)).drew.cell? ⟨b, 75, none⟩ = some (.int .i64 (n : Int)) := (World.cell?_setCell_other w1 _ _ _ (fun e => by injection e with e1 e2; omega)).trans k1'
  go_region_held3 (fun w' => w'.cell? ⟨b, 75, none⟩ = some (.int .i64 (n : Int))) (first | exact kk | go_keep) (fail)
  obtain ⟨w2, e2, r2, f2, s2⟩ := G.box_set H3.out n (.int .u8 c) (decX (bs.set n c) n rules 0 tl) (decX_byte _ _ _ _ _ _ _ HLB.out (by omega))
  change Exit.then _ _ _ _ ((w1.setCell ⟨b, n, none⟩ (.int .u8 c)).drew)
  rw [e2]
  have hlb : (bs.set n c).length = 75 := by rw [List.length_set]; exact HLB.out
  have HLB2 := Lib.hid hlb
  obtain ⟨w3, hw3⟩ : ∃ x : World, x = w2.drew := ⟨_, rfl⟩
  rw [← hw3]
  have R3 := Lib.hid (show Blk w3 b _ (decX (bs.set n c) n rules 0 tl) from by rw [hw3]; exact r2)
  have F3 := Lib.hid (show Fr (fun k => k = b) w1 w3 from by rw [hw3]; exact f2.drew)
  have k75 : w3.cell? ⟨b, 75, none⟩ = some (.int .i64 (n : Int)) := by rw [blk_cell R3.out]; exact (decX_at _ _ _ _ _ hlb).1
  have p3' := R3.out.wr
  clear kk k1' k4 p3 e2 r2 f2 s2 hw3 hlb
  obtain ⟨N1, hN1⟩ : ∃ k : Nat, k = n + 1 := ⟨_, rfl⟩
  have eN1 : (n : Int) + 1 = (N1 : Int) := by omega
  have HN1E := Lib.hid hN1
  rw [← hN1] at HN1
  have hN1b : N1 ≤ 75 := by omega
  clear hN1
  go_upto_region 5 with (fail)
  obtain ⟨w4, e4, r4, f4, s4⟩ := G.box_set R3.out 75 (.int .i64 (N1 : Int)) (decX (bs.set n c) N1 rules 0 tl) (decX_n _ _ _ _ _ _ HLB2.out)
  rw [e4]
  have R4 := Lib.hid r4
  have F4 := Lib.hid (F3.out.trans f4)
  have c75 : w4.cell? ⟨b, 75, none⟩ = some (.int .i64 (N1 : Int)) := by rw [blk_cell r4]; exact (decX_at _ _ _ _ _ HLB2.out).1
  have c76 : w4.cell? ⟨b, 76, none⟩ = some (.int .i64 rules) := by rw [blk_cell r4]; exact (decX_at _ _ _ _ _ HLB2.out).2.1
  have RD := Lib.hid (rd_decx r4 HLB2.out hN1b HN1.out HN2.out)
  have CP := Lib.hid (fun W (hW : Below w4.heap.size w4 W) => parse_x (some ⟨b, 0, none⟩) N1 N1 (z ++ [c]) rules q m e W (RD.out.below hW) HP.out)
  have t5 : (0 : Int) ≤ (N1 : Int) := by omega
  have t6 : (N1 : Int) ≤ 75 := by omega
  have t7 : N1 ≤ 75 := by omega
  clear e4 r4 f4 s4 k75 p3'
  have hb4 := lt_of_block R4.out
  go_cut [7, 8, 9] from 36 (fun s7 s8 s9 wx => ∃ b7 : Nat, s7 = .pointer (some ⟨b7, 0, none⟩) ∧ s8 = .int .i64 m ∧ s9 = .int .i64 e ∧ w4.heap.size ≤ b7 ∧ Blk wx b7 41 (reqC q.op q.rule q.cost (strOfNums q.key) q.k) ∧ Below w4.heap.size w4 wx)
  case first =>
    refine wp_region_held_drew (S := fun w' => w'.cell? ⟨b, 75, none⟩ = some (.int .i64 (N1 : Int)) ∧ w'.cell? ⟨b, 76, none⟩ = some (.int .i64 rules)) (by kernel_rfl) ⟨c75, c76⟩ (fun hHeld => ?_)
    have SS := Lib.hid (fun W (h : Below w4.heap.size w4 W) => show W.cell? ⟨b, 75, none⟩ = some (.int .i64 (N1 : Int)) ∧ W.cell? ⟨b, 76, none⟩ = some (.int .i64 rules) from ⟨(blk_cell (R4.out.keep h)).trans (decX_at _ _ _ _ _ HLB2.out).1, (blk_cell (R4.out.keep h)).trans (decX_at _ _ _ _ _ HLB2.out).2.1⟩)
    have BD := Lib.hid (show Below w4.heap.size w4 w4.drew from below_draws (Below.refl _ _) 1)
    clear c75 c76
    refine wpAnyH_take (i := 0) (oi := ?_) (v := ?_) ?_ ?_ ?_ ?_ ?_ ?_ ?_ ?_
    rotate_left 2
    · simp only [List.getElem?_toArray, List.getElem?_cons_succ, List.getElem?_cons_zero]; rfl
    · kernel_rfl
    · kernel_rfl
    · kernel_rfl
    · exact fun _ _ _ h => h
    · refine Or.inl ⟨by rfl, ?_⟩
      intro w' hSw
      (try dsimp only at hSw)
      go_simp
      all_goals (with_reducible rfl)
    · assumption
    try simp only [Act.put, List.setIfInBounds_toArray, List.set_cons_zero, List.set_cons_succ]
    refine wpAnyH_take (i := 1) (oi := ?_) (v := ?_) ?_ ?_ ?_ ?_ ?_ ?_ ?_ ?_
    rotate_left 2
    · simp only [List.getElem?_toArray, List.getElem?_cons_succ, List.getElem?_cons_zero]; rfl
    · kernel_rfl
    · kernel_rfl
    · kernel_rfl
    · exact fun _ _ _ h => h
    · refine Or.inl ⟨by rfl, ?_⟩
      intro w' hSw
      (try dsimp only at hSw)
      go_simp
      all_goals (with_reducible rfl)
    · assumption
    try simp only [Act.put, List.setIfInBounds_toArray, List.set_cons_zero, List.set_cons_succ]
    refine wpAnyH_take (i := 2) (oi := ?_) (v := ?_) ?_ ?_ ?_ ?_ ?_ ?_ ?_ ?_
    rotate_left 2
    · simp only [List.getElem?_toArray, List.getElem?_cons_succ, List.getElem?_cons_zero]; rfl
    · kernel_rfl
    · kernel_rfl
    · kernel_rfl
    · exact fun _ _ _ h => h
    · refine Or.inl ⟨by rfl, ?_⟩
      intro w' hSw
      (try dsimp only at hSw)
      go_simp
      all_goals (with_reducible rfl)
    · assumption
    try simp only [Act.put, List.setIfInBounds_toArray, List.set_cons_zero, List.set_cons_succ]
    refine wpAnyH_take (i := 3) (oi := ?_) (v := ?_) ?_ ?_ ?_ ?_ ?_ ?_ ?_ ?_
    rotate_left 2
    · simp only [List.getElem?_toArray, List.getElem?_cons_succ, List.getElem?_cons_zero]; rfl
    · kernel_rfl
    · kernel_rfl
    · kernel_rfl
    · exact fun _ _ _ h => h
    · refine Or.inl ⟨by rfl, ?_⟩
      intro w' hSw
      (try dsimp only at hSw)
      go_simp
      all_goals (with_reducible rfl)
    · assumption
    try simp only [Act.put, List.setIfInBounds_toArray, List.set_cons_zero, List.set_cons_succ]
    refine wpAnyH_take (i := 4) (oi := ?_) (v := ?_) ?_ ?_ ?_ ?_ ?_ ?_ ?_ ?_
    rotate_left 2
    · simp only [List.getElem?_toArray, List.getElem?_cons_succ, List.getElem?_cons_zero]; rfl
    · kernel_rfl
    · kernel_rfl
    · kernel_rfl
    · exact fun _ _ _ h => h
    · refine Or.inl ⟨by rfl, ?_⟩
      intro w' hSw
      (try dsimp only at hSw)
      go_simp
      all_goals (with_reducible rfl)
    · assumption
    try simp only [Act.put, List.setIfInBounds_toArray, List.set_cons_zero, List.set_cons_succ]
    refine wpAnyH_take (i := 5) (oi := ?_) (v := ?_) ?_ ?_ ?_ ?_ ?_ ?_ ?_ ?_
    rotate_left 2
    · simp only [List.getElem?_toArray, List.getElem?_cons_succ, List.getElem?_cons_zero]; rfl
    · kernel_rfl
    · kernel_rfl
    · kernel_rfl
    · exact fun _ _ _ h => h
    · refine Or.inl ⟨by rfl, ?_⟩
      intro w' hSw
      (try dsimp only at hSw)
      go_simp
      all_goals (with_reducible rfl)
    · assumption
    try simp only [Act.put, List.setIfInBounds_toArray, List.set_cons_zero, List.set_cons_succ]
    refine wpAnyH_take (i := 6) (oi := ?_) (v := ?_) ?_ ?_ ?_ ?_ ?_ ?_ ?_ ?_
    rotate_left 2
    · simp only [List.getElem?_toArray, List.getElem?_cons_succ, List.getElem?_cons_zero]; rfl
    · kernel_rfl
    · kernel_rfl
    · kernel_rfl
    · exact fun _ _ _ h => h
    · refine Or.inl ⟨by rfl, ?_⟩
      intro w' hSw
      (try dsimp only at hSw)
      go_simp
      all_goals (with_reducible rfl)
    · assumption
    try simp only [Act.put, List.setIfInBounds_toArray, List.set_cons_zero, List.set_cons_succ]
    refine wpAnyH_take (i := 7) (oi := ?_) (v := ?_) ?_ ?_ ?_ ?_ ?_ ?_ ?_ ?_
    rotate_left 2
    · simp only [List.getElem?_toArray, List.getElem?_cons_succ, List.getElem?_cons_zero]; rfl
    · kernel_rfl
    · kernel_rfl
    · kernel_rfl
    · exact fun _ _ _ h => h
    · refine Or.inl ⟨by rfl, ?_⟩
      intro w' hSw
      (try dsimp only at hSw)
      go_simp
      all_goals (with_reducible rfl)
    · assumption
    try simp only [Act.put, List.setIfInBounds_toArray, List.set_cons_zero, List.set_cons_succ]
    refine wpAnyH_take (i := 8) (oi := ?_) (v := ?_) ?_ ?_ ?_ ?_ ?_ ?_ ?_ ?_
    rotate_left 2
    · simp only [List.getElem?_toArray, List.getElem?_cons_succ, List.getElem?_cons_zero]; rfl
    · kernel_rfl
    · kernel_rfl
    · kernel_rfl
    · exact fun _ _ _ h => h
    · refine Or.inl ⟨by rfl, ?_⟩
      intro w' hSw
      (try dsimp only at hSw)
      go_simp
      all_goals (with_reducible rfl)
    · assumption
    try simp only [Act.put, List.setIfInBounds_toArray, List.set_cons_zero, List.set_cons_succ]
    refine wpAnyH_take (i := 9) (oi := ?_) (v := ?_) ?_ ?_ ?_ ?_ ?_ ?_ ?_ ?_
    rotate_left 2
    · simp only [List.getElem?_toArray, List.getElem?_cons_succ, List.getElem?_cons_zero]; rfl
    · kernel_rfl
    · kernel_rfl
    · kernel_rfl
    · exact fun _ _ _ h => h
    · refine Or.inl ⟨by rfl, ?_⟩
      intro w' hSw
      (try dsimp only at hSw)
      go_simp
      all_goals (with_reducible rfl)
    · assumption
    try simp only [Act.put, List.setIfInBounds_toArray, List.set_cons_zero, List.set_cons_succ]
    refine wpAnyH_take (i := 10) (oi := ?_) (v := ?_) ?_ ?_ ?_ ?_ ?_ ?_ ?_ ?_
    rotate_left 2
    · simp only [List.getElem?_toArray, List.getElem?_cons_succ, List.getElem?_cons_zero]; rfl
    · kernel_rfl
    · kernel_rfl
    · kernel_rfl
    · exact fun _ _ _ h => h
    · refine Or.inl ⟨by rfl, ?_⟩
      intro w' hSw
      (try dsimp only at hSw)
      go_simp
      all_goals (with_reducible rfl)
    · assumption
    try simp only [Act.put, List.setIfInBounds_toArray, List.set_cons_zero, List.set_cons_succ]
    refine wpAnyH_take (i := 11) (oi := ?_) (v := ?_) ?_ ?_ ?_ ?_ ?_ ?_ ?_ ?_
    rotate_left 2
    · simp only [List.getElem?_toArray, List.getElem?_cons_succ, List.getElem?_cons_zero]; rfl
    · kernel_rfl
    · kernel_rfl
    · kernel_rfl
    · exact fun _ _ _ h => h
    · refine Or.inl ⟨by rfl, ?_⟩
      intro w' hSw
      (try dsimp only at hSw)
      go_simp
      all_goals (with_reducible rfl)
    · assumption
    try simp only [Act.put, List.setIfInBounds_toArray, List.set_cons_zero, List.set_cons_succ]
    refine wpAnyH_take (i := 12) (oi := ?_) (v := ?_) ?_ ?_ ?_ ?_ ?_ ?_ ?_ ?_
    rotate_left 2
    · simp only [List.getElem?_toArray, List.getElem?_cons_succ, List.getElem?_cons_zero]; rfl
    · kernel_rfl
    · kernel_rfl
    · kernel_rfl
    · exact fun _ _ _ h => h
    · refine Or.inl ⟨by rfl, ?_⟩
      intro w' hSw
      (try dsimp only at hSw)
      go_simp
      all_goals (with_reducible rfl)
    · assumption
    try simp only [Act.put, List.setIfInBounds_toArray, List.set_cons_zero, List.set_cons_succ]
    refine wpAnyH_take (i := 13) (oi := ?_) (v := ?_) ?_ ?_ ?_ ?_ ?_ ?_ ?_ ?_
    rotate_left 2
    · simp only [List.getElem?_toArray, List.getElem?_cons_succ, List.getElem?_cons_zero]; rfl
    · kernel_rfl
    · kernel_rfl
    · kernel_rfl
    · exact fun _ _ _ h => h
    · refine Or.inl ⟨by rfl, ?_⟩
      intro w' hSw
      (try dsimp only at hSw)
      go_simp
      all_goals (with_reducible rfl)
    · assumption
    try simp only [Act.put, List.setIfInBounds_toArray, List.set_cons_zero, List.set_cons_succ]
    refine wpAnyH_take (i := 14) (oi := ?_) (v := ?_) ?_ ?_ ?_ ?_ ?_ ?_ ?_ ?_
    rotate_left 2
    · simp only [List.getElem?_toArray, List.getElem?_cons_succ, List.getElem?_cons_zero]; rfl
    · kernel_rfl
    · kernel_rfl
    · kernel_rfl
    · exact fun _ _ _ h => h
    · refine Or.inl ⟨by rfl, ?_⟩
      intro w' hSw
      (try dsimp only at hSw)
      go_simp
      all_goals (with_reducible rfl)
    · assumption
    try simp only [Act.put, List.setIfInBounds_toArray, List.set_cons_zero, List.set_cons_succ]
    refine wpAnyH_take (i := 15) (oi := ?_) (v := ?_) ?_ ?_ ?_ ?_ ?_ ?_ ?_ ?_
    rotate_left 2
    · simp only [List.getElem?_toArray, List.getElem?_cons_succ, List.getElem?_cons_zero]; rfl
    · kernel_rfl
    · kernel_rfl
    · kernel_rfl
    · exact fun _ _ _ h => h
    · refine Or.inl ⟨by rfl, ?_⟩
      intro w' hSw
      (try dsimp only at hSw)
      go_simp
      all_goals (with_reducible rfl)
    · assumption
    try simp only [Act.put, List.setIfInBounds_toArray, List.set_cons_zero, List.set_cons_succ]
    refine wpAnyH_ready (rs := [16, 21]) (by kernel_rfl) (by simp) ?_
    refine AllReadyH.cons (o := ?_) ?_ ?_ ?_
    rotate_left 1
    · simp only [List.getElem?_toArray, List.getElem?_cons_succ, List.getElem?_cons_zero]; rfl
    · skip
      intro K hK
      go_simp
      ((with_reducible refine (CP.out _ BD.out).mono ?_); rintro e' w5 ⟨rfl, b5⟩; have B5 := Lib.hid (G.below_on BD.out b5); clear b5)
      refine hK.out _ _ (SS.out _ B5.out) (fun hHeld => ?_)
      clear hK K
      try simp only [Act.put, List.setIfInBounds_toArray, List.set_cons_zero, List.set_cons_succ]
      refine wpAnyH_take (i := 17) (oi := ?_) (v := ?_) ?_ ?_ ?_ ?_ ?_ ?_ ?_ ?_
      rotate_left 2
      · simp only [List.getElem?_toArray, List.getElem?_cons_succ, List.getElem?_cons_zero]; rfl
      · kernel_rfl
      · kernel_rfl
      · kernel_rfl
      · exact fun _ _ _ h => h
      · refine Or.inl ⟨by rfl, ?_⟩
        intro w' hSw
        (try dsimp only at hSw)
        go_simp
        all_goals (with_reducible rfl)
      · assumption
      try simp only [Act.put, List.setIfInBounds_toArray, List.set_cons_zero, List.set_cons_succ]
      refine wpAnyH_take (i := 18) (oi := ?_) (v := ?_) ?_ ?_ ?_ ?_ ?_ ?_ ?_ ?_
      rotate_left 2
      · simp only [List.getElem?_toArray, List.getElem?_cons_succ, List.getElem?_cons_zero]; rfl
      · kernel_rfl
      · kernel_rfl
      · kernel_rfl
      · exact fun _ _ _ h => h
      · refine Or.inl ⟨by rfl, ?_⟩
        intro w' hSw
        (try dsimp only at hSw)
        go_simp
        all_goals (with_reducible rfl)
      · assumption
      try simp only [Act.put, List.setIfInBounds_toArray, List.set_cons_zero, List.set_cons_succ]
      refine wpAnyH_take (i := 19) (oi := ?_) (v := ?_) ?_ ?_ ?_ ?_ ?_ ?_ ?_ ?_
      rotate_left 2
      · simp only [List.getElem?_toArray, List.getElem?_cons_succ, List.getElem?_cons_zero]; rfl
      · kernel_rfl
      · kernel_rfl
      · kernel_rfl
      · exact fun _ _ _ h => h
      · refine Or.inl ⟨by rfl, ?_⟩
        intro w' hSw
        (try dsimp only at hSw)
        go_simp
        all_goals (with_reducible rfl)
      · assumption
      try simp only [Act.put, List.setIfInBounds_toArray, List.set_cons_zero, List.set_cons_succ]
      refine wpAnyH_take (i := 20) (oi := ?_) (v := ?_) ?_ ?_ ?_ ?_ ?_ ?_ ?_ ?_
      rotate_left 2
      · simp only [List.getElem?_toArray, List.getElem?_cons_succ, List.getElem?_cons_zero]; rfl
      · kernel_rfl
      · kernel_rfl
      · kernel_rfl
      · exact fun _ _ _ h => h
      · refine Or.inl ⟨by rfl, ?_⟩
        intro w' hSw
        (try dsimp only at hSw)
        go_simp
        all_goals (with_reducible rfl)
      · assumption
      try simp only [Act.put, List.setIfInBounds_toArray, List.set_cons_zero, List.set_cons_succ]
      refine wpAnyH_ready (rs := [21]) (by kernel_rfl) (by simp) ?_
      refine AllReadyH.cons (o := ?_) ?_ ?_ ?_
      rotate_left 1
      · simp only [List.getElem?_toArray, List.getElem?_cons_succ, List.getElem?_cons_zero]; rfl
      rotate_left 1
      · exact AllReadyH.nil
      intro K hK
      go_simp
      skip
      refine hK.out _ _ (SS.out _ (B5.out.alloc B5.out.size _)) (fun hHeld => ?_)
      clear hK K
      try simp only [Act.put, List.setIfInBounds_toArray, List.set_cons_zero, List.set_cons_succ]
      refine wpAnyH_ready (rs := [22]) (by kernel_rfl) (by simp) ?_
      refine AllReadyH.cons (o := ?_) ?_ ?_ ?_
      rotate_left 1
      · simp only [List.getElem?_toArray, List.getElem?_cons_succ, List.getElem?_cons_zero]; rfl
      rotate_left 1
      · exact AllReadyH.nil
      intro K hK
      go_simp
      skip
      refine hK.out _ _ (SS.out _ (B5.out.alloc B5.out.size _)) (fun hHeld => ?_)
      clear hK K
      try simp only [Act.put, List.setIfInBounds_toArray, List.set_cons_zero, List.set_cons_succ]
      refine wpAnyH_take (i := 23) (oi := ?_) (v := ?_) ?_ ?_ ?_ ?_ ?_ ?_ ?_ ?_
      rotate_left 2
      · simp only [List.getElem?_toArray, List.getElem?_cons_succ, List.getElem?_cons_zero]; rfl
      · kernel_rfl
      · kernel_rfl
      · kernel_rfl
      · exact fun _ _ _ h => h
      · refine Or.inl ⟨by rfl, ?_⟩
        intro w' hSw
        (try dsimp only at hSw)
        go_simp
        all_goals (with_reducible rfl)
      · assumption
      try simp only [Act.put, List.setIfInBounds_toArray, List.set_cons_zero, List.set_cons_succ]
      refine wpAnyH_take (i := 24) (oi := ?_) (v := ?_) ?_ ?_ ?_ ?_ ?_ ?_ ?_ ?_
      rotate_left 2
      · simp only [List.getElem?_toArray, List.getElem?_cons_succ, List.getElem?_cons_zero]; rfl
      · kernel_rfl
      · kernel_rfl
      · kernel_rfl
      · exact fun _ _ _ h => h
      · refine Or.inl ⟨by rfl, ?_⟩
        intro w' hSw
        (try dsimp only at hSw)
        go_simp
        all_goals (with_reducible rfl)
      · assumption
      try simp only [Act.put, List.setIfInBounds_toArray, List.set_cons_zero, List.set_cons_succ]
      refine wpAnyH_done (by kernel_rfl) ?_ _
      clear hHeld
      go_wp2
      go_meet
      case rel => exact ⟨w5.heap.size, rfl, rfl, rfl, B5.out.size, heap_alloc_new w5 _, B5.out.alloc B5.out.size _⟩
    · skip
      have BA := Lib.hid (show Below w4.heap.size w4 ((w4.alloc (.cells (reqC 0 0 0 ⟨#[]⟩ 0) 41)).drew) from below_draws ((Below.refl _ _).alloc (Nat.le_refl _) _) 1)
      have Z4 := Lib.hid (Blk.drew (heap_alloc_new w4 (.cells (reqC 0 0 0 ⟨#[]⟩ 0) 41)))
      refine AllReadyH.cons (o := ?_) ?_ ?_ ?_
      rotate_left 1
      · simp only [List.getElem?_toArray, List.getElem?_cons_succ, List.getElem?_cons_zero]; rfl
      rotate_left 1
      · exact AllReadyH.nil
      intro K hK
      go_simp
      skip
      refine hK.out _ _ (SS.out _ BA.out) (fun hHeld => ?_)
      clear hK K
      try simp only [Act.put, List.setIfInBounds_toArray, List.set_cons_zero, List.set_cons_succ]
      refine wpAnyH_ready (rs := [16]) (by kernel_rfl) (by simp) ?_
      refine AllReadyH.cons (o := ?_) ?_ ?_ ?_
      rotate_left 1
      · simp only [List.getElem?_toArray, List.getElem?_cons_succ, List.getElem?_cons_zero]; rfl
      rotate_left 1
      · exact AllReadyH.nil
      intro K hK
      go_simp
      ((with_reducible refine (CP.out _ BA.out).mono ?_); rintro e' w5 ⟨rfl, b5⟩; have B5 := Lib.hid (G.below_on BA.out b5); have Z5 := Lib.hid (Z4.out.keep b5); clear b5)
      refine hK.out _ _ (SS.out _ B5.out) (fun hHeld => ?_)
      clear hK K
      try simp only [Act.put, List.setIfInBounds_toArray, List.set_cons_zero, List.set_cons_succ]
      have zr := Z5.out.rd
      have zw := Z5.out.wr
      refine wpAnyH_take (i := 17) (oi := ?_) (v := ?_) ?_ ?_ ?_ ?_ ?_ ?_ ?_ ?_
      rotate_left 2
      · simp only [List.getElem?_toArray, List.getElem?_cons_succ, List.getElem?_cons_zero]; rfl
      · kernel_rfl
      · kernel_rfl
      · kernel_rfl
      · exact fun _ _ _ h => h
      · refine Or.inl ⟨by rfl, ?_⟩
        intro w' hSw
        (try dsimp only at hSw)
        go_simp
        all_goals (with_reducible rfl)
      · assumption
      try simp only [Act.put, List.setIfInBounds_toArray, List.set_cons_zero, List.set_cons_succ]
      refine wpAnyH_take (i := 18) (oi := ?_) (v := ?_) ?_ ?_ ?_ ?_ ?_ ?_ ?_ ?_
      rotate_left 2
      · simp only [List.getElem?_toArray, List.getElem?_cons_succ, List.getElem?_cons_zero]; rfl
      · kernel_rfl
      · kernel_rfl
      · kernel_rfl
      · exact fun _ _ _ h => h
      · refine Or.inl ⟨by rfl, ?_⟩
        intro w' hSw
        (try dsimp only at hSw)
        go_simp
        all_goals (with_reducible rfl)
      · assumption
      try simp only [Act.put, List.setIfInBounds_toArray, List.set_cons_zero, List.set_cons_succ]
      refine wpAnyH_take (i := 19) (oi := ?_) (v := ?_) ?_ ?_ ?_ ?_ ?_ ?_ ?_ ?_
      rotate_left 2
      · simp only [List.getElem?_toArray, List.getElem?_cons_succ, List.getElem?_cons_zero]; rfl
      · kernel_rfl
      · kernel_rfl
      · kernel_rfl
      · exact fun _ _ _ h => h
      · refine Or.inl ⟨by rfl, ?_⟩
        intro w' hSw
        (try dsimp only at hSw)
        go_simp
        all_goals (with_reducible rfl)
      · assumption
      try simp only [Act.put, List.setIfInBounds_toArray, List.set_cons_zero, List.set_cons_succ]
      refine wpAnyH_take (i := 20) (oi := ?_) (v := ?_) ?_ ?_ ?_ ?_ ?_ ?_ ?_ ?_
      rotate_left 2
      · simp only [List.getElem?_toArray, List.getElem?_cons_succ, List.getElem?_cons_zero]; rfl
      · kernel_rfl
      · kernel_rfl
      · kernel_rfl
      · exact fun _ _ _ h => h
      · refine Or.inl ⟨by rfl, ?_⟩
        intro w' hSw
        (try dsimp only at hSw)
        go_simp
        all_goals (with_reducible rfl)
      · assumption
      try simp only [Act.put, List.setIfInBounds_toArray, List.set_cons_zero, List.set_cons_succ]
      refine wpAnyH_ready (rs := [22]) (by kernel_rfl) (by simp) ?_
      refine AllReadyH.cons (o := ?_) ?_ ?_ ?_
      rotate_left 1
      · simp only [List.getElem?_toArray, List.getElem?_cons_succ, List.getElem?_cons_zero]; rfl
      rotate_left 1
      · exact AllReadyH.nil
      intro K hK
      go_simp
      skip
      refine hK.out _ _ (by rw [five_set Z5.out]; exact SS.out _ (B5.out.trans ((Fr.setObj (F := fun k => k = w4.heap.size) (Fr.refl _ _) rfl _).below B5.out.size (fun k hk => by omega)))) (fun hHeld => ?_)
      clear hK K
      try simp only [Act.put, List.setIfInBounds_toArray, List.set_cons_zero, List.set_cons_succ]
      refine wpAnyH_take (i := 23) (oi := ?_) (v := ?_) ?_ ?_ ?_ ?_ ?_ ?_ ?_ ?_
      rotate_left 2
      · simp only [List.getElem?_toArray, List.getElem?_cons_succ, List.getElem?_cons_zero]; rfl
      · kernel_rfl
      · kernel_rfl
      · kernel_rfl
      · exact fun _ _ _ h => h
      · refine Or.inl ⟨by rfl, ?_⟩
        intro w' hSw
        (try dsimp only at hSw)
        go_simp
        all_goals (with_reducible rfl)
      · assumption
      try simp only [Act.put, List.setIfInBounds_toArray, List.set_cons_zero, List.set_cons_succ]
      refine wpAnyH_take (i := 24) (oi := ?_) (v := ?_) ?_ ?_ ?_ ?_ ?_ ?_ ?_ ?_
      rotate_left 2
      · simp only [List.getElem?_toArray, List.getElem?_cons_succ, List.getElem?_cons_zero]; rfl
      · kernel_rfl
      · kernel_rfl
      · kernel_rfl
      · exact fun _ _ _ h => h
      · refine Or.inl ⟨by rfl, ?_⟩
        intro w' hSw
        (try dsimp only at hSw)
        go_simp
        all_goals (with_reducible rfl)
      · assumption
      try simp only [Act.put, List.setIfInBounds_toArray, List.set_cons_zero, List.set_cons_succ]
      refine wpAnyH_done (by kernel_rfl) ?_ _
      clear hHeld zr zw
      go_wp2
      go_meet
      case rel =>
        rw [five_set Z5.out]
        exact ⟨w4.heap.size, rfl, rfl, rfl, Nat.le_refl _, setObj_at (lt_of_block Z5.out) _, B5.out.trans ((Fr.setObj (F := fun k => k = w4.heap.size) (Fr.refl _ _) rfl _).below B5.out.size (fun k hk => by omega))⟩
  case rest =>
    obtain ⟨b7, rfl, rfl, rfl, hb7, hq7, hbw⟩ := hcut
    obtain ⟨w6, hw6⟩ : ∃ w6 : World, w6 = wc := ⟨_, rfl⟩
    rw [← hw6] at hq7 hbw ⊢
    have Q7 := Lib.hid hq7
    have R6 := Lib.hid (R4.out.keep hbw)
    have BK6 := Lib.hid ((BK.out.fr F4.out (fun h => by have := HB0.out; have := HBL.out; omega)).keep hbw)
    have hbl := HBL.out
    have hb0e := HB0.out
    have hbw4 := hbw.size
    have h04 := BL.out.size
    have h14 := F4.out.size
    have hb0l := lt_of_block BK.out
    have NB := Lib.hid (show b7 ≠ b ∧ b7 ≠ b0 ∧ b0 ≠ b from by omega)
    have FW := Lib.hid (show Fr (fun k => k = b) w w6 from (Fr.of_below BL.out).trans (F4.out.trans (Fr.of_below hbw)))
    have k7 := hq7.rd
    have p6 := R6.out.wr
    have p0 := BK6.out.wr
    clear hw6 hq7 hbw hb7 hbl hb0e hbw4 h04 h14 hb0l c75 c76
    by_cases hx : e ≠ 0 ∨ 0 < m
    · have hnil := HP.out
      have HNX := Lib.hid (show nextZ rules z c = [] from by unfold nextZ; rw [hnil]; exact if_pos hx)
      clear hnil
      have r75 : w6.cell? ⟨b, 75, none⟩ = some (.int .i64 (N1 : Int)) := by rw [blk_cell R6.out]; exact (decX_at _ _ _ _ _ HLB2.out).1
      have r77 : w6.cell? ⟨b, 77, none⟩ = some (.int .i64 0) := by rw [blk_cell R6.out]; exact (decX_at _ _ _ _ _ HLB2.out).2.2.1
      rcases (show (e != 0) = true ∨ ((e != 0) = false ∧ decide (0 < m) = true) from by
        by_cases h : e = 0
        · right; refine ⟨by simp [h], ?_⟩; rw [decide_eq_true_eq]; rcases hx with g | g; exact absurd h g; exact g
        · left; simp [h]) with g1 | ⟨g1, g2⟩
      all_goals
        have hund : undef = Value.tuple #[] := rfl
        go_upto_region 8 with (fail)
        obtain ⟨w8, e8, r8, f8, s8⟩ := G.box_set R6.out 75 (.int .i64 ((0 : Nat) : Int)) (decX (bs.set n c) 0 rules 0 tl) (decX_n _ _ _ _ _ _ HLB2.out)
        obtain ⟨w9, e9, r9, f9, s9⟩ := G.box_set r8 77 (.int .i64 e) (decX (bs.set n c) 0 rules e tl) (decX_err _ _ _ _ _ _ HLB2.out)
        have e8' : w6.setCell ⟨b, 75, none⟩ (.int .i64 0) = w8 := e8
        rw [e8', e9]
        have R9 := Lib.hid r9
        have F9 := Lib.hid (f8.trans f9)
        have Q9 := Lib.hid ((Q7.out.fr f8 NB.out.1).fr f9 NB.out.1)
        have K9 := Lib.hid ((BK6.out.fr f8 NB.out.2.2).fr f9 NB.out.2.2)
        have k9 := Q9.out.rd
        have k0 := K9.out.rd
        have p9 := K9.out.wr
        clear e8 r8 f8 s8 e9 r9 f9 s9 e8' r75 r77 k7 p6 p0
        go_wp2
        rw [five_set K9.out]
        refine bodyPost_ret (results_cell2 rfl _ _ b0 _ _ (0, 0) _ rfl (setObj_at (lt_of_block K9.out) _) Try.underlying41 rfl (by kernel_rfl)) rfl ⟨?_, ?_, ?_⟩
        · first | rfl | (rw [g2]; rfl)
        · rw [HNX.out]
          exact ⟨bs.set n c, ⟨HLB2.out, HN2.out, rfl, clean_nil rules⟩, R9.out.fr (Fr.setObj (F := fun k => k = b0) (Fr.refl _ _) rfl _) (fun h => NB.out.2.2 h.symm)⟩
        · have hb0e := HB0.out
          exact Fr.drop_new (Fr.setObj (F := fun k => k = b ∨ k = b0) ((FW.out.trans F9.out).mono (fun k h => Or.inl h)) (Or.inr rfl) _) (by omega)
    · have g1 : (e != 0) = false := by
        by_cases h : e = 0
        · simp [h]
        · exact absurd (Or.inl h) hx
      have g2 : decide (0 < m) = false := by rw [decide_eq_false_iff_not]; exact fun h => hx (Or.inr h)
      have HNX := Lib.hid (show nextZ rules z c = z ++ [c] from by unfold nextZ; rw [HP.out]; exact if_neg hx)
      have k0 := BK6.out.rd
      have he0 : e = 0 := by simpa using g1
      have HE0 := Lib.hid he0
      clear hx p6 he0
      go_wp2
      rw [five_set BK6.out]
      refine bodyPost_ret (results_cell2 rfl _ _ b0 _ _ (0, 0) _ rfl (setObj_at (lt_of_block BK6.out) _) Try.underlying41 rfl (by kernel_rfl)) rfl ⟨?_, ?_, ?_⟩
      · first | rfl | (rw [g2]; rfl)
      · have hnc := hnc.out
        have hl : (z ++ [c]).length = N1 := by have := HN1E.out; have := HN.out; simp; omega
        rw [HNX.out] at hnc ⊢
        rw [HE0.out]
        refine ⟨bs.set n c, ⟨HLB2.out, HN2.out, by rw [hl]; exact HN1.out, hnc⟩, ?_⟩
        rw [hl]
        exact R6.out.fr (Fr.setObj (F := fun k => k = b0) (Fr.refl _ _) rfl _) (fun h => NB.out.2.2 h.symm)
      · have hb0e := HB0.out
        exact Fr.drop_new (Fr.setObj (F := fun k => k = b ∨ k = b0) (FW.out.mono (fun k h => Or.inl h)) (Or.inr rfl) _) (by omega)
set_option maxHeartbeats 2000000 in
set_option maxRecDepth 100000 in
theorem feedx_err (T : TypeId) (tl : List Value) (b : Nat) (z : List Int) (rules c err : Int) (w : World) (h : DecX T tl w b z rules err) (he : err ≠ 0) :
    Calls Try.prog 34 #[.pointer (some ⟨b, 0, none⟩), .int .u8 c] w fun e' w' => e' = .returned (.tuple #[reqV 0 0 0 ⟨#[]⟩ 0, .bool false, .int .i64 err]) ∧ Below w.heap.size w w' := by
  obtain ⟨bs, h1, h2⟩ := h
  have hl := h1.len
  have HL := Lib.hid hl
  have H2 := Lib.hid h2
  have g1 : (err != 0) = true := by simpa using he
  clear h1 h2 he hl
  go_enter Try.func34, Try.ntmps34
  go_upto_region 1 with (fail)
  obtain ⟨w1, hw1, hbk, hbl, hsz1⟩ := box_new w (reqC 0 0 0 ⟨#[]⟩ 0) 41
  change Code.wp _ _ _ _ (w.alloc (.cells (reqC 0 0 0 ⟨#[]⟩ 0) 41))
  rw [hw1]
  obtain ⟨b0, hb0⟩ : ∃ b0, b0 = w.heap.size := ⟨_, rfl⟩
  rw [← hb0] at hbk ⊢
  have HB0 := Lib.hid hb0
  have BK := Lib.hid hbk
  have BL := Lib.hid hbl
  have H3 := Lib.hid (H2.out.keep hbl)
  have k3' : w1.cell? ⟨b, 77, none⟩ = some (.int .i64 err) := by rw [blk_cell H3.out]; exact (decX_at _ _ _ _ _ HL.out).2.2.1
  have k0 := hbk.rd
  have p0 := hbk.wr
  have NB := Lib.hid (show b0 ≠ b from by have := lt_of_block H2.out; omega)
  clear hbk hbl hsz1 hw1 hb0
  go_upto_region 2 with (fail)
  have kk : ∀ W, Fr (fun k => k = b0) w1 W → W.cell? ⟨b, 77, none⟩ = some (.int .i64 err) := fun W hW => by rw [blk_cell (H3.out.fr hW (fun h => NB.out h.symm))]; exact (decX_at _ _ _ _ _ HL.out).2.2.1
  have KK := Lib.hid kk
  clear kk
  refine wp_region_held_drew (S := fun w' => w'.cell? ⟨b, 77, none⟩ = some (.int .i64 err)) (by kernel_rfl) k3' (fun hHeld => ?_)
  have D0 := Lib.hid (show Blk w1.drew b0 _ (reqC 0 0 0 ⟨#[]⟩ 0) from BK.out)
  have k1 := D0.out.rd
  have p1 := D0.out.wr
  refine wpAnyH_take (i := 0) (oi := ?_) (v := ?_) ?_ ?_ ?_ ?_ ?_ ?_ ?_ ?_
  rotate_left 2
  · simp only [List.getElem?_toArray, List.getElem?_cons_succ, List.getElem?_cons_zero]; rfl
  · kernel_rfl
  · kernel_rfl
  · kernel_rfl
  · exact fun _ _ _ h => h
  · refine Or.inl ⟨by rfl, ?_⟩
    intro w' hSw
    (try dsimp only at hSw)
    go_simp
    all_goals (with_reducible rfl)
  · assumption
  try simp only [Act.put, List.setIfInBounds_toArray, List.set_cons_zero, List.set_cons_succ]
  refine wpAnyH_take (i := 1) (oi := ?_) (v := ?_) ?_ ?_ ?_ ?_ ?_ ?_ ?_ ?_
  rotate_left 2
  · simp only [List.getElem?_toArray, List.getElem?_cons_succ, List.getElem?_cons_zero]; rfl
  · kernel_rfl
  · kernel_rfl
  · kernel_rfl
  · exact fun _ _ _ h => h
  · refine Or.inl ⟨by rfl, ?_⟩
    intro w' hSw
    (try dsimp only at hSw)
    go_simp
    all_goals (with_reducible rfl)
  · assumption
  try simp only [Act.put, List.setIfInBounds_toArray, List.set_cons_zero, List.set_cons_succ]
  refine wpAnyH_take (i := 2) (oi := ?_) (v := ?_) ?_ ?_ ?_ ?_ ?_ ?_ ?_ ?_
  rotate_left 2
  · simp only [List.getElem?_toArray, List.getElem?_cons_succ, List.getElem?_cons_zero]; rfl
  · kernel_rfl
  · kernel_rfl
  · kernel_rfl
  · exact fun _ _ _ h => h
  · refine Or.inl ⟨by rfl, ?_⟩
    intro w' hSw
    (try dsimp only at hSw)
    go_simp
    all_goals (with_reducible rfl)
  · assumption
  try simp only [Act.put, List.setIfInBounds_toArray, List.set_cons_zero, List.set_cons_succ]
  refine wpAnyH_take (i := 3) (oi := ?_) (v := ?_) ?_ ?_ ?_ ?_ ?_ ?_ ?_ ?_
  rotate_left 2
  · simp only [List.getElem?_toArray, List.getElem?_cons_succ, List.getElem?_cons_zero]; rfl
  · kernel_rfl
  · kernel_rfl
  · kernel_rfl
  · exact fun _ _ _ h => h
  · refine Or.inl ⟨by rfl, ?_⟩
    intro w' hSw
    (try dsimp only at hSw)
    go_simp
    all_goals (with_reducible rfl)
  · assumption
  try simp only [Act.put, List.setIfInBounds_toArray, List.set_cons_zero, List.set_cons_succ]
  refine wpAnyH_take (i := 4) (oi := ?_) (v := ?_) ?_ ?_ ?_ ?_ ?_ ?_ ?_ ?_
  rotate_left 2
  · simp only [List.getElem?_toArray, List.getElem?_cons_succ, List.getElem?_cons_zero]; rfl
  · kernel_rfl
  · kernel_rfl
  · kernel_rfl
  · exact fun _ _ _ h => h
  · refine Or.inl ⟨by rfl, ?_⟩
    intro w' hSw
    (try dsimp only at hSw)
    go_simp
    all_goals (with_reducible rfl)
  · assumption
  try simp only [Act.put, List.setIfInBounds_toArray, List.set_cons_zero, List.set_cons_succ]
  refine wpAnyH_ready (rs := [5]) (by kernel_rfl) (by simp) ?_
  refine AllReadyH.cons (o := ?_) ?_ ?_ ?_
  rotate_left 1
  · simp only [List.getElem?_toArray, List.getElem?_cons_succ, List.getElem?_cons_zero]; rfl
  rotate_left 1
  · exact AllReadyH.nil
  intro K hK
  go_simp
  skip
  refine hK.out _ _ (by rw [five_set BK.out]; exact KK.out _ (Fr.setObj (F := fun k => k = b0) (Fr.refl _ _) rfl _).drew) (fun hHeld => ?_)
  clear hK K
  try simp only [Act.put, List.setIfInBounds_toArray, List.set_cons_zero, List.set_cons_succ]
  refine wpAnyH_take (i := 6) (oi := ?_) (v := ?_) ?_ ?_ ?_ ?_ ?_ ?_ ?_ ?_
  rotate_left 2
  · simp only [List.getElem?_toArray, List.getElem?_cons_succ, List.getElem?_cons_zero]; rfl
  · kernel_rfl
  · kernel_rfl
  · kernel_rfl
  · exact fun _ _ _ h => h
  · refine Or.inl ⟨by rfl, ?_⟩
    intro w' hSw
    (try dsimp only at hSw)
    go_simp
    all_goals (with_reducible rfl)
  · assumption
  try simp only [Act.put, List.setIfInBounds_toArray, List.set_cons_zero, List.set_cons_succ]
  refine wpAnyH_take (i := 7) (oi := ?_) (v := ?_) ?_ ?_ ?_ ?_ ?_ ?_ ?_ ?_
  rotate_left 2
  · simp only [List.getElem?_toArray, List.getElem?_cons_succ, List.getElem?_cons_zero]; rfl
  · kernel_rfl
  · kernel_rfl
  · kernel_rfl
  · exact fun _ _ _ h => h
  · refine Or.inl ⟨by rfl, ?_⟩
    intro w' hSw
    (try dsimp only at hSw)
    go_simp
    all_goals (with_reducible rfl)
  · assumption
  try simp only [Act.put, List.setIfInBounds_toArray, List.set_cons_zero, List.set_cons_succ]
  refine wpAnyH_done (by kernel_rfl) ?_ _
  clear hHeld k0 p0 k1 p1
  go_wp2
  rw [five_set BK.out]
  refine bodyPost_ret (results_cell2 rfl _ _ b0 _ _ (0, 0) _ rfl (setObj_at (lt_of_block BK.out) _) Try.underlying41 rfl (by kernel_rfl)) rfl ⟨?_, ?_⟩
  · rfl
  · exact below_draws (BL.out.trans ((Fr.setObj (F := fun k => k = b0) (Fr.refl _ _) rfl _).below BL.out.size (fun k hk => by have := HB0.out; omega))) 1
/-- the head's cells, one behind the other. -/
theorem decX_range {w : World} {b : Nat} {T : TypeId} {bs : List Int} {n : Nat} {rules err : Int} {tl : List Value} (h : Blk w b T (decX bs n rules err tl)) (hl : bs.length = 75) : w.rangeAt b 0 (decC bs n rules err).toList := fun j v hj => by
  have hj2 : j < (decC bs n rules err).toList.length := (List.getElem?_eq_some_iff.1 hj).1
  rw [Nat.zero_add, blk_cell h, decX_eq, List.getElem?_toArray, List.getElem?_append_left hj2]
  exact hj
theorem infoDecL (bs : List Int) (n : Nat) (rules err : Int) (h : bs.length = 75) : (Try.prog.info? 48).map (·.size) = some (decC bs n rules err).toList.length := by
  rw [infoDec, Array.length_toList, decC_size _ _ _ _ h]
theorem decC_arr (bs : List Int) (n : Nat) (rules err : Int) : (decC bs n rules err).toList.toArray = decC bs n rules err := by simp
set_option maxHeartbeats 2000000 in
set_option maxRecDepth 100000 in
theorem tryx (T : TypeId) (tl : List Value) (b : Nat) (z : List Int) (rules c err : Int) (w : World) (h : DecX T tl w b z rules err) (R : Value)
    (hf : ∀ w' b', DecAt w' b' z rules err → Calls Try.prog 34 #[.pointer (some ⟨b', 0, none⟩), .int .u8 c] w' fun e' w'' => e' = .returned R ∧ Fr (fun k => k = b') w' w'')
    (op rule cost k : Int) (s : ByteArray) (B : Bool) (E : Int) (hR : R = .tuple #[reqV op rule cost s k, .bool B, .int .i64 E]) :
    Calls Try.prog 33 #[.pointer (some ⟨b, 0, none⟩), .int .u8 c] w fun e' w' => e' = .returned R ∧ Below w.heap.size w w' := by
  subst hR
  obtain ⟨bs, hbl, hb, hc⟩ := h.copy
  have HB := Lib.hid hb
  have HC := Lib.hid hc
  have HF := Lib.hid hf
  have hz := zero_dec
  have hs1 := decC_size zero75 0 0 0 zero75_len
  have hs2 := decC_size bs z.length rules err hbl
  have hst := fun w => store_dec w zero75 bs 0 z.length 0 rules 0 err zero75_len hbl
  have HBL := Lib.hid hbl
  clear h hb hc hf hbl
  go_enter Try.func33, Try.ntmps33
  go_upto_region 1 with (fail)
  obtain ⟨w1, hw1, hbk, hbl, hsz1⟩ := box_new w (reqC 0 0 0 ⟨#[]⟩ 0) 41
  change Code.wp _ _ _ _ (w.alloc (.cells (reqC 0 0 0 ⟨#[]⟩ 0) 41))
  rw [hw1]
  obtain ⟨b0, hb0⟩ : ∃ b0, b0 = w.heap.size := ⟨_, rfl⟩
  rw [← hb0] at hbk ⊢
  have HB0 := Lib.hid hb0
  have BK := Lib.hid hbk
  have BL := Lib.hid hbl
  have H3 := Lib.hid (HB.out.keep hbl)
  clear hbk hbl hsz1 hw1 hb0
  go_upto_region 2 with (refine wpList_load_mid (by rfl) 48 _ (by rfl) b 0 (by rfl) _ _ (decX_range H3.out HBL.out) Try.underlying48 rfl (infoDecL _ _ _ _ HBL.out) ?_; rw [decC_arr])
  obtain ⟨w2, hw2, hbk, hbl, hsz⟩ := box_new w1 (decC bs z.length rules err) 48
  rw [hw2]
  obtain ⟨b7, hb7⟩ : ∃ k, k = w1.heap.size := ⟨_, rfl⟩
  rw [← hb7] at hbk ⊢
  have HB7 := Lib.hid hb7
  have D2 := Lib.hid (HC.out _ _ hbk)
  have K2 := Lib.hid (BK.out.keep hbl)
  have B2 := Lib.hid (G.below_on BL.out hbl)
  have NB := Lib.hid (show b0 ≠ b7 from by have := lt_of_block BK.out; omega)
  have NW := Lib.hid (show w.heap.size ≤ b7 from by have := BL.out.size; omega)
  clear hw2 hbk hbl hsz hb7 hz hs1 hs2 hst
  go_wp2_with (go_at_call 34; ((with_reducible refine (HF.out _ _ D2.out).mono ?_); rintro e' w3 ⟨rfl, f3⟩; have F3 := Lib.hid f3; have K3 := Lib.hid (K2.out.fr f3 NB.out); have k3 := K3.out.rd; have p3 := K3.out.wr; clear f3))
  rw [five_set K3.out]
  refine bodyPost_ret (results_cell2 rfl _ _ b0 _ _ (0, 0) _ rfl (setObj_at (lt_of_block K3.out) _) Try.underlying41 rfl (by kernel_rfl)) rfl ⟨?_, ?_⟩
  · rfl
  · have hb0e := HB0.out
    have hnw := NW.out
    exact B2.out.trans ((F3.out.below B2.out.size (fun k hk => by omega)).trans ((Fr.setObj (F := fun k => k = b0) (Fr.refl _ _) rfl _).below (Nat.le_trans B2.out.size F3.out.size) (fun k hk => by omega)))
end Go.Proofs.Ytaghookljjpllaa
